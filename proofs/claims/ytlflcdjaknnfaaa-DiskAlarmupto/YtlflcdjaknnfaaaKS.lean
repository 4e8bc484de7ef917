import Derived.Test.YtlflcdjaknnfaaaKQ
namespace Go.Proofs.Ytlflcdjaknnfaaa
open Go.RowKit

theorem read_off {S : Sd} (hp : S.pow = false) (i : Int) : S.read i = [] := by unfold Sd.read; rw [if_pos hp]
/-- what whole gives -/
def Sd.wh (S : Sd) : List Nat := if S.pow then S.all else []
theorem Sd.ok.whLt {S : Sd} (h : S.ok) : ∀ x ∈ S.wh, x < 256 := by
  unfold Sd.wh
  split
  · exact h.allLt
  · simp
section
variable {F : Nat → Prop} {w w' : World} {p : Nat} {S : Sd}
set_option maxHeartbeats 2000000 in
theorem whole_off (h : Dk F w p S) (hp : S.pow = false) : Calls Try.prog 15 #[.pointer (some ⟨p, 0, none⟩)] w fun e w' => ∃ a c, e = .returned (.slice a 0 c) ∧ Rw w' a c [] ∧ New w none a ∧ Below w.heap.size w w' := by
  have hn1 := h.ok.n1
  have H := hide h
  clear h
  go_enter Try.func15, Try.ntmps15
  go_wp2
  go_loopw [3, 4] (fun v i wx => ∃ (j : Nat) (aj : Option Addr) (cj : Nat), j ≤ S.n ∧ i = .int .i64 j ∧ v = .slice aj 0 cj ∧ (Rw wx aj cj [] ∧ New w none aj ∧ Below w.heap.size w wx)) (fun _ i _ => S.n - (intOf i).toNat)
  case atStart => exact ⟨0, none, 0, Nat.zero_le _, rfl, rfl, Rw.nil _, New.none _ _, Below.refl _ _⟩
  case round =>
    obtain ⟨j, aj, cj, hj, rfl, rfl, hG⟩ := hrel
    have HG := hide hG
    clear hG
    have R0 := hide (kBlocks (H.out.keep HG.out.2.2))
    by_cases hlt : j < S.n
    · have hi : (j : Int) < (S.n : Int) := by omega
      have hi2 : (j : Int) ≤ 65536 := by omega
      have R1 := hide (kRead (H.out.keep HG.out.2.2) (j : Int))
      rw [read_off hp] at R1
      go_wp2_with (first | (go_at_call 18; refine R0.out.mono ?_; rintro e w1 ⟨rfl, e1⟩; have e1 := e1.symm; subst e1) | (go_at_call 35; refine R1.out.mono ?_; rintro e w2 ⟨a2, c2, rfl, hr2, hn2, hb2⟩; have H2 := hide hb2; clear hr2 hn2 hb2) | (at_builtin; refine wpList_apB rfl _ _ rfl aj 0 cj [] rfl rfl (HG.out.1.keep H2.out) a2 0 c2 [] rfl rfl (Bs.empty _ _) (by decide) ?_; intro a' cap' w3 hR hN hg _; have H3 := hide (And.intro hR (And.intro hN hg)); clear hR hN hg))
      go_roundw
      case rel =>
        obtain ⟨r1, r2, r3⟩ := H3.out
        refine ⟨j + 1, a', cap', by omega, by go_num, rfl, r1, (HG.out.2.1).trans r2 (by have := HG.out.2.2.size; have := H2.out.size; omega), ?_⟩
        refine (bt HG.out.2.2 H2.out).grown r3 (by have := HG.out.2.2.size; have := H2.out.size; omega) fun k hk => ?_
        obtain ⟨x, hx, e⟩ := map_some hk
        rcases HG.out.2.1 x hx with ⟨y, hy, _⟩ | h
        · cases hy
        · omega
      case measure => simp [intOf]; omega
    · obtain rfl : j = S.n := by omega
      have hi : ¬ ((S.n : Nat) : Int) < ((S.n : Nat) : Int) := by omega
      go_wp2_with (go_at_call 18; refine R0.out.mono ?_; rintro e w1 ⟨rfl, e1⟩; have e1 := e1.symm; subst e1)
      go_ret
      exact ⟨aj, cj, rfl, HG.out⟩
theorem kWhole (h : Dk F w p S) : Calls Try.prog 15 #[.pointer (some ⟨p, 0, none⟩)] w fun e w' => ∃ a c, e = .returned (.slice a S.wh.length c) ∧ Rw w' a c S.wh ∧ New w none a ∧ Below w.heap.size w w' := by
  cases hp : S.pow with
  | true =>
    have e : S.wh = S.all := by unfold Sd.wh; rw [if_pos hp]
    rw [e]
    exact whole_any h hp
  | false =>
    have e : S.wh = [] := by unfold Sd.wh; rw [if_neg (by rw [hp]; decide)]
    rw [e]
    exact whole_off h hp
end
theorem make_bool (n : Nat) (hc : n ≤ 281474976710656) (w : World) : (Instr.makeSlice 52 (.int .i64 (n : Int)) (.int .i64 (n : Int))).run Try.prog w = .ok (.slice (some ⟨w.heap.size, 0, none⟩) n n) (w.alloc (.cells (madeCells #[.bool false] n) 4)) := by
  obtain ⟨i0, hi, hz0, hz1, hz2⟩ := info_parts (show (Try.prog.info? 4).map (fun i => (i.zero, i.size, i.bytes)) = some (some (.bool false), 1, 1) by kernel_rfl)
  have hr := run_make (P := Try.prog) w 52 4 i0 (.bool false) Try.underlying52 hi hz0 .i64 .i64 n n (by omega) (by omega) (by rw [hz2]; omega) (by omega)
  simp only [Int.toNat_natCast, hz1, Nat.mul_one] at hr
  exact hr
set_option maxHeartbeats 1000000 in
theorem copyBools_any (w : World) (a : Option Addr) (n c : Nat) (K : List Bool) (hK : Kb w a K) (hn : n = K.length) (hl : K.length ≤ 1048576) :
    Calls Try.prog 29 #[.slice a n c] w fun e w' => e = .returned (.slice (some ⟨w.heap.size, 0, none⟩) K.length K.length) ∧ Kb w' (some ⟨w.heap.size, 0, none⟩) K ∧ Below w.heap.size w w' := by
  subst hn
  have hmk := make_bool K.length (by omega)
  have HK := hide hK
  clear hK
  go_enter Try.func29, Try.ntmps29
  go_wp2
  go_loopw [4] (fun i wx => ∃ j : Nat, j ≤ K.length ∧ i = .int .i64 j ∧ (wx.rowIs w.heap.size 4 K.length (fun i => if i < j then .bool (K.getD i false) else .bool false) ∧ Below w.heap.size w wx)) (fun i _ => K.length - (intOf i).toNat)
  case atStart => exact ⟨0, Nat.zero_le _, rfl, (World.rowIs_made w (.bool false) K.length 4).congr fun i _ => by simp, al _ _⟩
  case round =>
    obtain ⟨j, hj, rfl, hG⟩ := hrel
    have HG := hide hG
    clear hG
    by_cases hlt : j < K.length
    · have hi : (j : Int) < (K.length : Int) := by omega
      obtain ⟨b, o, rfl, hc⟩ := (HK.out.keep HG.out.2).at hlt
      have cg := HG.out.1.cell hlt
      have fg := HG.out.1.frozen j
      simp only [Nat.lt_irrefl, if_false] at cg
      have HV : Hid (K.getD j false = K.getD j false) := rfl
      generalize hv : K.getD j false = v at *
      have HV := hide hv
      clear hv
      go_wp2
      go_roundw
      case rel =>
        refine ⟨j + 1, by omega, by go_num, (HG.out.1.set j _).congr fun i hi => ?_, HG.out.2.setCell (Nat.le_refl _) _⟩
        by_cases e : i = j
        · subst e; rw [if_pos rfl, if_pos (by omega), HV.out]
        · rw [if_neg e]
          by_cases e2 : i < j
          · rw [if_pos e2, if_pos (by omega)]
          · rw [if_neg e2, if_neg (by omega)]
      case measure => simp [intOf]; omega
    · obtain rfl : j = K.length := by omega
      go_wp2
      go_ret
      refine ⟨rfl, ⟨by omega, .inr ⟨_, 0, rfl, fun i hi => ?_⟩⟩, HG.out.2⟩
      rw [Nat.zero_add, HG.out.1.cell hi, if_pos hi]
set_option maxHeartbeats 1000000 in
theorem EqInts_any (w : World) (g h : Nat) (n m cg ch : Nat) (l k : List Nat) (hA : Iw w g l) (hB : Iw w h k) (hn : n = l.length) (hm : m = k.length) (hb : l.length ≤ 268435456) :
    Calls Try.prog 30 #[.slice (some ⟨g, 0, none⟩) n cg, .slice (some ⟨h, 0, none⟩) m ch] w fun e w' => e = .returned (.bool (decide (l = k))) ∧ Below w.heap.size w w' := by
  subst hn hm
  have HA := hide hA
  have HB := hide hB
  clear hA hB
  by_cases hl : l.length = k.length
  · have hd : ∀ j, (∀ i, i < j → l.getD i 0 = k.getD i 0) → j = l.length → l = k := fun j h e => ext_get hl (by subst e; exact h)
    have hl' : (l.length : Int) = (k.length : Int) := by omega
    obtain ⟨N, hN⟩ : ∃ N, N = l.length := ⟨_, rfl⟩
    have hN2 : k.length = N := by omega
    rw [hN2, ← hN]
    have HN := hide (And.intro hN hN2)
    have hbN : N ≤ 268435456 := by omega
    clear hl hl' hN hN2
    go_enter Try.func30, Try.ntmps30
    go_wp2
    go_loopw [5] (fun i wx => ∃ j : Nat, j ≤ N ∧ i = .int .i64 j ∧ ((∀ i, i < j → l.getD i 0 = k.getD i 0) ∧ Below w.heap.size w wx)) (fun i _ => N - (intOf i).toNat)
    case atStart => exact ⟨0, Nat.zero_le _, rfl, fun i hi => by omega, Below.refl _ _⟩
    case round =>
      obtain ⟨j, hj, rfl, hG⟩ := hrel
      have HG := hide hG
      clear hG
      by_cases hlt : j < N
      · have hi : (j : Int) < (N : Int) := by omega
        have cA := (HA.out.keep HG.out.2).cell (i := j) (by rw [← HN.out.1]; exact hlt)
        have cB := (HB.out.keep HG.out.2).cell (i := j) (by rw [HN.out.2]; exact hlt)
        obtain ⟨x, hx⟩ : ∃ x, x = l.getD j 0 := ⟨_, rfl⟩
        obtain ⟨y, hy⟩ : ∃ y, y = k.getD j 0 := ⟨_, rfl⟩
        rw [← hx] at cA
        rw [← hy] at cB
        have HX := hide hx
        have HY := hide hy
        clear hx hy
        by_cases e : x = y
        · subst e
          have q0 : ((x : Int) == (x : Int)) = true := by simp
          go_wp2
          go_quiet (fail)
          go_wp2
          go_roundw
          case rel =>
            refine ⟨j + 1, by omega, by go_num, fun i hi => ?_, bt HG.out.2 (drN _ _)⟩
            by_cases e : i = j
            · subst e; rw [← HX.out, ← HY.out]
            · exact HG.out.1 i (by omega)
          case measure => simp [intOf]; omega
        · have q0 : ((x : Int) == (y : Int)) = false := eqf (by omega)
          have q1 : ¬ (x : Int) = (y : Int) := by omega
          go_wp2
          go_quiet (fail)
          go_wp2
          go_ret
          refine ⟨?_, bt HG.out.2 (drN _ _)⟩
          rw [decide_eq_false (fun e' => e (by rw [HX.out, HY.out, e']))]
          rfl
      · obtain rfl : N = j := by omega
        go_wp2
        go_ret
        refine ⟨?_, HG.out.2⟩
        rw [decide_eq_true (hd N HG.out.1 HN.out.1)]
        rfl
  · have hne : ((l.length : Int) == (k.length : Int)) = false := eqf (by omega)
    have hne2 : ¬ (l.length : Int) = (k.length : Int) := by omega
    have hd : decide (l = k) = false := decide_eq_false fun e => hl (by rw [e])
    rw [hd]
    clear hd hl
    generalize l.length = n1 at *
    generalize k.length = n2 at *
    go_enter Try.func30, Try.ntmps30
    go_wp2
    go_ret
    exact ⟨rfl, Below.refl _ _⟩
end Go.Proofs.Ytlflcdjaknnfaaa
