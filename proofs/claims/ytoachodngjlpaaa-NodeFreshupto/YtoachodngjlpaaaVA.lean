import Derived.Test.YtoachodngjlpaaaWA
import Derived.Test.YtoachodngjlpaaaVN
import Derived.Laws.BitsAllLaws
import Derived.Laws.MakeOwn
import Derived.Deep.OwnRows
import Derived.Deep.RegionHeldLaw
import Derived.Deep.RegionLaw
import Derived.Laws.Cover3
import Derived.BigRegion
import Derived.BigQuiet
import Derived.Deep.QuietTactic
import Derived.Deep.LoopGhost
import Derived.Deep.RegionWith
import Derived.Deep.RegionHeld3
namespace Go.Proofs.Ytoachodngjlpaaa
open Go.RowKit

theorem drN (w : World) (n : Nat) : Below w.heap.size w (w.drewN n) := ⟨rfl, rfl, rfl, Nat.le_refl _, fun _ _ => rfl⟩
theorem wrapI {x : Int} (h : -9223372036854775808 ≤ x) (h2 : x ≤ 9223372036854775807) : IntKind.i64.wrap x = x := by rw [IntKind.wrap_i64]; omega
theorem w64 {j : Nat} (h : j < 9223372036854775807) : wrap64 ((j : Int) + 1) = (j : Int) + 1 := by unfold wrap64; omega
theorem eqf {k c : Int} (h : k ≠ c) : (k == c) = false := beq_eq_false_iff_ne.2 h
theorem Bs.at {w : World} {aa : Option Addr} {p : List Nat} (hB : Bs w aa p) {j : Nat} (hj : j < p.length) : ∃ b off, aa = some ⟨b, off, none⟩ ∧ w.cell? ⟨b, off + j, none⟩ = some (.int .u8 ((p.getD j 0 : Nat) : Int)) := by
  rcases hB.2.2 with rfl | ⟨b, off, rfl, hc⟩
  · simp at hj
  · exact ⟨b, off, rfl, hc j hj⟩
theorem meas_up (n j : Nat) (x : Int) (hx : x = (j : Int) + 1) (h : j < n) : n - (intOf (.int .i64 x)).toNat < n - (intOf (.int .i64 (j : Int))).toNat := by
  subst hx
  simp only [intOf]
  omega
/-- a row of the call's own is appended to -/
theorem fresh_step {w wx w2 : World} {aj a' : Option Addr} {o : Obj} (hN : New w none aj) (hb : Below w.heap.size w wx) (hg : (wx.alloc o).grownBy w2 (aj.map Addr.block)) (hN2 : New (wx.alloc o) aj a') : New w none a' ∧ Below w.heap.size w w2 := by
  refine ⟨hN.trans hN2 (by rw [size_alloc]; have := hb.size; omega), ?_⟩
  refine (hb.alloc hb.size o).grown hg (by rw [size_alloc]; have := hb.size; omega) fun k hk => ?_
  obtain ⟨x, hx, e⟩ := map_some hk
  rcases hN x hx with ⟨y, hy, _⟩ | h
  · cases hy
  · omega
theorem make_u8 (l c : Nat) (hlc : l ≤ c) (hc : c ≤ 281474976710656) (w : World) : (Instr.makeSlice 23 (.int .i64 (l : Int)) (.int .i64 (c : Int))).run Try.prog w = .ok (.slice (some ⟨w.heap.size, 0, none⟩) l c) (w.alloc (.cells (madeCells #[.int .u8 0] c) 5)) := by
  obtain ⟨i0, hi, hz0, hz1, hz2⟩ := info_parts infoU8
  have hr := run_make (P := Try.prog) w 23 5 i0 (.int .u8 0) Try.underlying23 hi hz0 .i64 .i64 l c (by omega) (by omega) (by rw [hz2]; omega) (by omega)
  simp only [Int.toNat_natCast, hz1, Nat.mul_one] at hr
  exact hr
theorem byte_at {w w' : World} {aa : Option Addr} {p : List Nat} (hB : Bs w aa p) (hb : Below w.heap.size w w') {j : Nat} (hj : j < p.length) : ∃ b off, aa = some ⟨b, off, none⟩ ∧ w'.cell? ⟨b, off + j, none⟩ = some (.int .u8 ((p.getD j 0 : Nat) : Int)) := by
  rcases hB.2.2 with rfl | ⟨b, off, rfl, hc⟩
  · simp at hj
  · exact ⟨b, off, rfl, (hb.cell (p := ⟨b, off + j, none⟩) (block_lt_of_cell (hc j hj))).trans (hc j hj)⟩

set_option maxHeartbeats 1600000 in
theorem CopyBytes_any (w : World) (aa : Option Addr) (n capa : Nat) (p : List Nat) (hB : Bs w aa p) (hn : n = p.length) (hlen : p.length ≤ 140737488355328) :
    Calls Try.prog 5 #[.slice aa n capa] w fun x w' => ∃ a' cap', x = .returned (.slice a' n cap') ∧ Rw w' a' cap' p ∧ New w none a' ∧ Below w.heap.size w w' := by
  subst hn
  have hmk : ∀ w : World, (Instr.makeSlice 23 (.int .i64 0) (.int .i64 (p.length : Int))).run Try.prog w = .ok (.slice (some ⟨w.heap.size, 0, none⟩) 0 p.length) (w.alloc (.cells (madeCells #[.int .u8 0] p.length) 5)) := make_u8 0 p.length (Nat.zero_le _) (by omega)
  have HB := hide hB
  clear hB
  go_enter Try.func5, Try.ntmps5
  go_wp2
  go_loopw [3, 4] (fun v i wx => ∃ (j : Nat) (aj : Option Addr) (cj : Nat), j ≤ p.length ∧ i = .int .i64 j ∧ v = .slice aj j cj ∧ (Rw wx aj cj (p.take j) ∧ New w none aj ∧ Below w.heap.size w wx)) (fun _ i _ => p.length - (intOf i).toNat)
  case atStart => exact ⟨0, some ⟨w.heap.size, 0, none⟩, p.length, Nat.zero_le _, rfl, rfl, Rw.mk (cur := madeCells #[.int .u8 0] p.length) (heap_alloc_new _ _) (Nat.zero_le _) (by unfold maxLen; omega) (size_madeCells _ _) (by simp [vb]), fun x hx => .inr (by simp only [Option.some.injEq] at hx; subst hx; exact Nat.le_refl _), (Below.refl _ _).alloc (Nat.le_refl _) _⟩
  case round =>
    obtain ⟨j, aj, cj, hj, rfl, rfl, hG⟩ := hrel
    have HG := hide hG
    clear hG
    by_cases hlt : j < p.length
    · have hi : (j : Int) < (p.length : Int) := by omega
      obtain ⟨bs, off, rfl, hcs⟩ := byte_at HB.out HG.out.2.2 hlt
      have HS : Hid (p.take j ++ [p.getD j 0] = p.take (j + 1)) := take_snoc p hlt
      have hz : (p.take j).length = j := by rw [List.length_take]; omega
      have hlw := block_lt_of_cell hcs
      generalize p.getD j 0 = x at *
      generalize p.take j = L at *
      go_wp2_with (at_builtin; refine wpList_ap1 rfl _ _ rfl aj j cj L rfl hz.symm (HG.out.1.keep ((Below.refl _ _).alloc (Nat.le_refl _) _)) ⟨wr.heap.size, 0, none⟩ 1 x rfl ?c1 (by omega) ?_)
      try case c1 => simp
      intro g cap' w2 hR hN hg _
      obtain ⟨h1, h2⟩ := fresh_step HG.out.2.1 HG.out.2.2 hg hN
      rw [HS.out] at hR
      have HR := hide hR
      clear hR hN hg
      go_wp2
      go_roundw
      case rel => exact ⟨j + 1, _, cap', by omega, by go_num, rfl, HR.out, h1, h2⟩
      case measure => simp [intOf]; omega
    · obtain rfl : j = p.length := by omega
      go_wp2
      go_ret
      refine ⟨aj, cj, rfl, ?_⟩
      have h := HG.out
      rw [List.take_length] at h
      exact h

theorem run_eql_slice_nil (a : Option Addr) (l c : Nat) (w : World) : (binOp .eql 23 (.slice a l c) (.slice none 0 0)).run Try.prog w = .ok (.bool a.isNone) w := by
  simp only [binOp]
  simp [run_equal_slice_nil w 23 5 a l c Try.underlying23]

set_option maxHeartbeats 1600000 in
theorem Compare_any (w : World) (aa ab : Option Addr) (n m capa capb : Nat) (l k : List Nat) (hA : Bs w aa l) (hB : Bs w ab k) (hn : n = l.length) (hm : m = k.length) :
    Calls Try.prog 30 #[.slice aa n capa, .slice ab m capb] w fun x w' => x = .returned (.int .i64 (cmpB l k)) ∧ Below w.heap.size w w' := by
  subst hn hm
  have hlen := hA.2.1
  have hlen2 := hB.2.1
  have HA := hide hA
  have HB := hide hB
  clear hA hB
  go_enter Try.func30, Try.ntmps30
  go_wp2
  go_loopw [5] (fun i wx => ∃ j : Nat, j ≤ l.length ∧ j ≤ k.length ∧ i = .int .i64 j ∧ (Below w.heap.size w wx ∧ cmpB (l.drop j) (k.drop j) = cmpB l k)) (fun i _ => l.length - (intOf i).toNat)
  case atStart => exact ⟨0, Nat.zero_le _, Nat.zero_le _, rfl, Below.refl _ _, rfl⟩
  case round =>
    obtain ⟨j, hj, hj2, rfl, hG⟩ := hrel
    have HG := hide hG
    clear hG
    by_cases hlt : j < l.length
    · by_cases hlt2 : j < k.length
      · have hi : (j : Int) < (l.length : Int) := by omega
        have hi2 : (j : Int) < (k.length : Int) := by omega
        have HS := hide (cmpB_drop l k j hlt hlt2)
        obtain ⟨ba, oa, rfl, hca⟩ := byte_at HA.out HG.out.1 hlt
        obtain ⟨bb, ob, rfl, hcb⟩ := byte_at HB.out HG.out.1 hlt2
        have hj1 := w64 (j := j) (by omega)
        generalize l.getD j 0 = x at *
        generalize k.getD j 0 = y at *
        by_cases h1 : x < y
        · have q1 : (x : Int) < (y : Int) := by omega
          have HE : Hid (cmpB l k = -1) := by rw [← HG.out.2, HS.out, if_pos h1]; exact rfl
          go_wp2
          go_quiet (fail)
          go_wp2
          go_ret
          exact ⟨by rw [HE.out]; first | done | rfl, bt HG.out.1 (drN _ _)⟩
        · have q1 : ¬ (x : Int) < (y : Int) := by omega
          by_cases h2 : y < x
          · have q2 : (y : Int) < (x : Int) := by omega
            have HE : Hid (cmpB l k = 1) := by rw [← HG.out.2, HS.out, if_neg h1, if_pos h2]; exact rfl
            go_wp2
            go_quiet (fail)
            go_wp2
            go_quiet (fail)
            go_wp2
            go_ret
            exact ⟨by rw [HE.out]; first | done | rfl, bt (bt HG.out.1 (drN _ _)) (drN _ _)⟩
          · have q2 : ¬ (y : Int) < (x : Int) := by omega
            have HE : Hid (cmpB (l.drop (j + 1)) (k.drop (j + 1)) = cmpB l k) := by rw [← HG.out.2, HS.out, if_neg h1, if_neg h2]; exact rfl
            go_wp2
            go_quiet (fail)
            go_wp2
            go_quiet (fail)
            go_wp2
            go_roundw
            case rel => exact ⟨j + 1, by omega, by omega, congrArg (Value.int IntKind.i64) (by omega), bt HG.out.1 (drN _ _), HE.out⟩
            case measure => first | exact meas_up _ _ _ hj1 hlt | exact meas_up _ _ _ rfl hlt
      · obtain rfl : j = k.length := by omega
        have hi : ((k.length : Nat) : Int) < (l.length : Int) := by omega
        have HE : Hid (cmpB l k = 1) := by rw [← HG.out.2, cmpB_end l k k.length (.inr (Nat.le_refl _)) (by omega) (Nat.le_refl _), if_neg (by omega), if_pos (by omega)]; exact rfl
        have hi2 : ¬ (l.length : Int) < (k.length : Int) := by omega
        go_wp2
        go_ret
        exact ⟨by rw [HE.out]; first | done | rfl, HG.out.1⟩
    · obtain rfl : j = l.length := by omega
      by_cases h1 : l.length < k.length
      · have hi : ((l.length : Nat) : Int) < (k.length : Int) := by omega
        have HE : Hid (cmpB l k = -1) := by rw [← HG.out.2, cmpB_end l k l.length (.inl (Nat.le_refl _)) (Nat.le_refl _) (by omega), if_pos (by omega)]; exact rfl
        go_wp2
        go_ret
        exact ⟨by rw [HE.out]; first | done | rfl, HG.out.1⟩
      · have hi : ¬ ((l.length : Nat) : Int) < (k.length : Int) := by omega
        have hi2 : ¬ ((k.length : Nat) : Int) < (l.length : Int) := by omega
        have HE : Hid (cmpB l k = 0) := by rw [← HG.out.2, cmpB_end l k l.length (.inl (Nat.le_refl _)) (Nat.le_refl _) (by omega), if_neg (by omega), if_neg (by omega)]; exact rfl
        go_wp2
        go_ret
        exact ⟨by rw [HE.out]; first | done | rfl, HG.out.1⟩
theorem EqBytes_any (w : World) (aa ab : Option Addr) (n m capa capb : Nat) (l k : List Nat) (hA : Bs w aa l) (hB : Bs w ab k) (hn : n = l.length) (hm : m = k.length) :
    Calls Try.prog 17 #[.slice aa n capa, .slice ab m capb] w fun x w' => x = .returned (.bool (decide (l = k))) ∧ Below w.heap.size w w' := by
  have R := hide (Compare_any w aa ab n m capa capb l k hA hB hn hm)
  clear hA hB hn hm
  by_cases h : l = k
  · have hd : decide (l = k) = true := decide_eq_true h
    rw [hd]
    have hz : cmpB l k = 0 := cmpB_zero.2 h
    rw [hz] at R
    clear hd hz h
    go_enter Try.func17, Try.ntmps17
    go_wp2_with fail
    refine R.out.mono ?_
    rintro e w1 ⟨rfl, hb⟩
    go_wp2
    go_ret
    exact ⟨rfl, hb⟩
  · have hd : decide (l = k) = false := decide_eq_false h
    rw [hd]
    have hz : (cmpB l k == 0) = false := eqf fun e => h (cmpB_eq e)
    clear hd h
    generalize cmpB l k = c at *
    go_enter Try.func17, Try.ntmps17
    go_wp2_with fail
    refine R.out.mono ?_
    rintro e w1 ⟨rfl, hb⟩
    go_wp2
    go_ret
    exact ⟨by simp_all, hb⟩
theorem EqBytes_same (w : World) (aa ab : Option Addr) (n m capa capb : Nat) (l : List Nat) (hA : Bs w aa l) (hB : Bs w ab l) (hn : n = l.length) (hm : m = l.length) :
    Calls Try.prog 17 #[.slice aa n capa, .slice ab m capb] w fun x w' => x = .returned (.bool true) ∧ Below w.heap.size w w' :=
  (EqBytes_any w aa ab n m capa capb l l hA hB hn hm).mono fun x w' h => ⟨by rw [h.1]; simp, h.2⟩

end Go.Proofs.Ytoachodngjlpaaa
