import Derived.Test.YtlkjpljfbmploaaWG
import Derived.Laws.MakeOwn
import Derived.Deep.OwnRows
import Derived.Deep.RegionHeldLaw
namespace Go.Proofs.Ytlkjpljfbmploaa
open Go.RowKit

/-- a row of the call's own is appended to -/
theorem fresh_step {w wx w2 : World} {aj a' : Option Addr} {o : Obj} (hN : New w none aj) (hb : Below w.heap.size w wx) (hg : (wx.alloc o).grownBy w2 (aj.map Addr.block)) (hN2 : New (wx.alloc o) aj a') : New w none a' ∧ Below w.heap.size w w2 := by
  refine ⟨hN.trans hN2 (by rw [size_alloc]; have := hb.size; omega), ?_⟩
  refine (hb.alloc hb.size o).grown hg (by rw [size_alloc]; have := hb.size; omega) fun k hk => ?_
  obtain ⟨x, hx, e⟩ := map_some hk
  rcases hN x hx with ⟨y, hy, _⟩ | h
  · cases hy
  · omega
theorem make_u8 (l c : Nat) (hlc : l ≤ c) (hc : c ≤ 281474976710656) (w : World) : (Instr.makeSlice 33 (.int .i64 (l : Int)) (.int .i64 (c : Int))).run Try.prog w = .ok (.slice (some ⟨w.heap.size, 0, none⟩) l c) (w.alloc (.cells (madeCells #[.int .u8 0] c) 5)) := by
  obtain ⟨i0, hi, hz0, hz1, hz2⟩ := info_parts infoU8
  have hr := run_make (P := Try.prog) w 33 5 i0 (.int .u8 0) Try.underlying33 hi hz0 .i64 .i64 l c (by omega) (by omega) (by rw [hz2]; omega) (by omega)
  simp only [Int.toNat_natCast, hz1, Nat.mul_one] at hr
  exact hr
theorem byte_at {w w' : World} {aa : Option Addr} {p : List Nat} (hB : Bs w aa p) (hb : Below w.heap.size w w') {j : Nat} (hj : j < p.length) : ∃ b off, aa = some ⟨b, off, none⟩ ∧ w'.cell? ⟨b, off + j, none⟩ = some (.int .u8 ((p.getD j 0 : Nat) : Int)) := by
  rcases hB.2.2 with rfl | ⟨b, off, rfl, hc⟩
  · simp at hj
  · exact ⟨b, off, rfl, (hb.cell (p := ⟨b, off + j, none⟩) (block_lt_of_cell (hc j hj))).trans (hc j hj)⟩

set_option maxHeartbeats 1600000 in
theorem CopyBytes_any (w : World) (aa : Option Addr) (n capa : Nat) (p : List Nat) (hB : Bs w aa p) (hn : n = p.length) (hlen : p.length ≤ 140737488355328) :
    Calls Try.prog 31 #[.slice aa n capa] w fun x w' => ∃ a' cap', x = .returned (.slice a' n cap') ∧ Rw w' a' cap' p ∧ New w none a' ∧ Below w.heap.size w w' := by
  subst hn
  have hmk : ∀ w : World, (Instr.makeSlice 33 (.int .i64 0) (.int .i64 (p.length : Int))).run Try.prog w = .ok (.slice (some ⟨w.heap.size, 0, none⟩) 0 p.length) (w.alloc (.cells (madeCells #[.int .u8 0] p.length) 5)) := make_u8 0 p.length (Nat.zero_le _) (by omega)
  have HB := hide hB
  clear hB
  go_enter Try.func31, Try.ntmps31
  go_wp2
  go_loopw [3, 4] (fun v i wx => ∃ (j : Nat) (aj : Option Addr) (cj : Nat), j ≤ p.length ∧ i = .int .i64 j ∧ v = .slice aj j cj ∧ (Rw wx aj cj (p.take j) ∧ New w none aj ∧ Below w.heap.size w wx)) (fun _ i _ => p.length - (intOf i).toNat)
  case atStart => exact ⟨0, some ⟨w.heap.size, 0, none⟩, p.length, Nat.zero_le _, rfl, rfl, Rw.mk (cur := madeCells #[.int .u8 0] p.length) (heap_alloc_new _ _) (Nat.zero_le _) (by unfold maxLen; omega) (size_madeCells _ _) (by simp [vb]), fun x hx => .inr (by simp only [Option.some.injEq] at hx; subst hx; exact Nat.le_refl _), (Below.refl _ _).alloc (Nat.le_refl _) _⟩
  case round =>
    obtain ⟨j, aj, cj, hj, rfl, rfl, hG⟩ := hrel
    have HG := hide hG
    clear hG
    by_cases hlt : j < p.length
    · have hi : (j : Int) < (p.length : Int) := by omega
      obtain ⟨bs, off, rfl, hcs⟩ := byte_at HB.out HG.out.2.2 hlt
      have HS : Hid (p.take j ++ [p.getD j 0] = p.take (j + 1)) := take_snoc p hlt
      have hz : (p.take j).length = j := by rw [List.length_take]; omega
      have hlw := block_lt_of_cell hcs
      generalize p.getD j 0 = x at *
      generalize p.take j = L at *
      go_wp2_with (at_builtin; refine wpList_ap1 rfl _ _ rfl aj j cj L rfl hz.symm (HG.out.1.keep ((Below.refl _ _).alloc (Nat.le_refl _) _)) ⟨wr.heap.size, 0, none⟩ 1 x rfl ?c1 (by omega) ?_)
      try case c1 => simp
      intro g cap' w2 hR hN hg _
      obtain ⟨h1, h2⟩ := fresh_step HG.out.2.1 HG.out.2.2 hg hN
      rw [HS.out] at hR
      have HR := hide hR
      clear hR hN hg
      go_wp2
      go_roundw
      case rel => exact ⟨j + 1, _, cap', by omega, by go_num, rfl, HR.out, h1, h2⟩
      case measure => simp [intOf]; omega
    · obtain rfl : j = p.length := by omega
      go_wp2
      go_ret
      refine ⟨aj, cj, rfl, ?_⟩
      have h := HG.out
      rw [List.take_length] at h
      exact h

set_option maxHeartbeats 1600000 in
theorem Number_any (w : World) (x k : Nat) (hx : x < 18446744073709551616) (hk : k ≤ 8) :
    Calls Try.prog 67 #[.int .u64 (x : Int), .int .i64 (k : Int)] w fun y w' => ∃ a' cap', y = .returned (.slice a' k cap') ∧ Rw w' a' cap' (numB x k) ∧ New w none a' ∧ Below w.heap.size w w' := by
  go_enter Try.func67, Try.ntmps67
  go_wp2
  go_loopw [0, 5, 6] (fun r v i wx => ∃ (j : Nat) (aj : Option Addr) (cj : Nat), j ≤ k ∧ i = .int .i64 j ∧ r = .int .u64 ((x / 256 ^ j : Nat) : Int) ∧ v = .slice aj j cj ∧ (Rw wx aj cj ((numB x k).take j) ∧ New w none aj ∧ Below w.heap.size w wx)) (fun _ _ i _ => k - (intOf i).toNat)
  case atStart => exact ⟨0, none, 0, Nat.zero_le _, rfl, by simp, rfl, Rw.nil _, New.none _ _, Below.refl _ _⟩
  case round =>
    obtain ⟨j, aj, cj, hj, rfl, rfl, rfl, hG⟩ := hrel
    have HG := hide hG
    clear hG
    by_cases hlt : j < k
    · have hi : (j : Int) < (k : Int) := by omega
      have hxl : x / 256 ^ j < 18446744073709551616 := Nat.lt_of_le_of_lt (Nat.div_le_self _ _) hx
      have hsn := take_snoc (numB x k) (k := j) (by rw [numB_length]; exact hlt)
      rw [numB_get x k j hlt] at hsn
      have HSN := hide hsn
      have HDV := hide (div_step x j)
      have hz : ((numB x k).take j).length = j := by rw [List.length_take, numB_length]; omega
      clear hsn
      generalize x / 256 ^ j = y at *
      generalize (numB x k).take j = L at *
      have hw8 : IntKind.u8.wrap (y : Int) = ((y % 256 : Nat) : Int) := by rw [IntKind.wrap_u8']; omega
      go_wp2_with (at_builtin; refine wpList_ap1 rfl _ _ rfl aj j cj L rfl hz.symm (HG.out.1.keep ((Below.refl _ _).alloc (Nat.le_refl _) _)) ⟨wr.heap.size, 0, none⟩ 1 (y % 256) rfl ?c1 (by omega) ?_)
      try case c1 => simp
      intro g cap' w2 hR hN hg _
      obtain ⟨h1, h2⟩ := fresh_step HG.out.2.1 HG.out.2.2 hg hN
      rw [HSN.out] at hR
      have HR := hide hR
      clear hR hN hg
      go_wp2
      go_roundw
      case rel => exact ⟨j + 1, _, cap', by omega, by go_num, by rw [← HDV.out]; simp, rfl, HR.out, h1, h2⟩
      case measure => simp [intOf]; omega
    · obtain rfl : j = k := by omega
      go_wp2
      go_ret
      refine ⟨aj, cj, rfl, ?_⟩
      have h := HG.out
      rw [List.take_of_length_le (by rw [numB_length]; exact Nat.le_refl _)] at h
      exact h
end Go.Proofs.Ytlkjpljfbmploaa
