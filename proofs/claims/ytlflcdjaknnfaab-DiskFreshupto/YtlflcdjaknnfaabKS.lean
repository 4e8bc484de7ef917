import Derived.Test.YtlflcdjaknnfaabKQ
namespace Go.Proofs.Ytlflcdjaknnfaab
open Go.RowKit

theorem read_off {S : Sd} (hp : S.pow = false) (i : Int) : S.read i = [] := by unfold Sd.read; rw [if_pos hp]
/-- what whole gives -/
def Sd.wh (S : Sd) : List Nat := if S.pow then S.all else []
theorem Sd.ok.whLt {S : Sd} (h : S.ok) : ∀ x ∈ S.wh, x < 256 := by
  unfold Sd.wh
  split
  · exact h.allLt
  · simp
section
variable {F : Nat → Prop} {w w' : World} {p : Nat} {S : Sd}
end
theorem make_bool (n : Nat) (hc : n ≤ 281474976710656) (w : World) : (Instr.makeSlice 32 (.int .i64 (n : Int)) (.int .i64 (n : Int))).run Try.prog w = .ok (.slice (some ⟨w.heap.size, 0, none⟩) n n) (w.alloc (.cells (madeCells #[.bool false] n) 4)) := by
  obtain ⟨i0, hi, hz0, hz1, hz2⟩ := info_parts (show (Try.prog.info? 4).map (fun i => (i.zero, i.size, i.bytes)) = some (some (.bool false), 1, 1) by kernel_rfl)
  have hr := run_make (P := Try.prog) w 32 4 i0 (.bool false) Try.underlying32 hi hz0 .i64 .i64 n n (by omega) (by omega) (by rw [hz2]; omega) (by omega)
  simp only [Int.toNat_natCast, hz1, Nat.mul_one] at hr
  exact hr
set_option maxHeartbeats 1000000 in
theorem copyBools_any (w : World) (a : Option Addr) (n c : Nat) (K : List Bool) (hK : Kb w a K) (hn : n = K.length) (hl : K.length ≤ 1048576) :
    Calls Try.prog 34 #[.slice a n c] w fun e w' => e = .returned (.slice (some ⟨w.heap.size, 0, none⟩) K.length K.length) ∧ Kb w' (some ⟨w.heap.size, 0, none⟩) K ∧ Below w.heap.size w w' := by
  subst hn
  have hmk := make_bool K.length (by omega)
  have HK := hide hK
  clear hK
  go_enter Try.func34, Try.ntmps34
  go_wp2
  go_loopw [4] (fun i wx => ∃ j : Nat, j ≤ K.length ∧ i = .int .i64 j ∧ (wx.rowIs w.heap.size 4 K.length (fun i => if i < j then .bool (K.getD i false) else .bool false) ∧ Below w.heap.size w wx)) (fun i _ => K.length - (intOf i).toNat)
  case atStart => exact ⟨0, Nat.zero_le _, rfl, (World.rowIs_made w (.bool false) K.length 4).congr fun i _ => by simp, al _ _⟩
  case round =>
    obtain ⟨j, hj, rfl, hG⟩ := hrel
    have HG := hide hG
    clear hG
    by_cases hlt : j < K.length
    · have hi : (j : Int) < (K.length : Int) := by omega
      obtain ⟨b, o, rfl, hc⟩ := (HK.out.keep HG.out.2).at hlt
      have cg := HG.out.1.cell hlt
      have fg := HG.out.1.frozen j
      simp only [Nat.lt_irrefl, if_false] at cg
      have HV : Hid (K.getD j false = K.getD j false) := rfl
      generalize hv : K.getD j false = v at *
      have HV := hide hv
      clear hv
      go_wp2
      go_roundw
      case rel =>
        refine ⟨j + 1, by omega, by go_num, (HG.out.1.set j _).congr fun i hi => ?_, HG.out.2.setCell (Nat.le_refl _) _⟩
        by_cases e : i = j
        · subst e; rw [if_pos rfl, if_pos (by omega), HV.out]
        · rw [if_neg e]
          by_cases e2 : i < j
          · rw [if_pos e2, if_pos (by omega)]
          · rw [if_neg e2, if_neg (by omega)]
      case measure => simp [intOf]; omega
    · obtain rfl : j = K.length := by omega
      go_wp2
      go_ret
      refine ⟨rfl, ⟨by omega, .inr ⟨_, 0, rfl, fun i hi => ?_⟩⟩, HG.out.2⟩
      rw [Nat.zero_add, HG.out.1.cell hi, if_pos hi]
set_option maxHeartbeats 1000000 in
theorem EqInts_any (w : World) (g h : Nat) (n m cg ch : Nat) (l k : List Nat) (hA : Iw w g l) (hB : Iw w h k) (hn : n = l.length) (hm : m = k.length) (hb : l.length ≤ 268435456) :
    Calls Try.prog 20 #[.slice (some ⟨g, 0, none⟩) n cg, .slice (some ⟨h, 0, none⟩) m ch] w fun e w' => e = .returned (.bool (decide (l = k))) ∧ Below w.heap.size w w' := by
  subst hn hm
  have HA := hide hA
  have HB := hide hB
  clear hA hB
  by_cases hl : l.length = k.length
  · have hd : ∀ j, (∀ i, i < j → l.getD i 0 = k.getD i 0) → j = l.length → l = k := fun j h e => ext_get hl (by subst e; exact h)
    have hl' : (l.length : Int) = (k.length : Int) := by omega
    obtain ⟨N, hN⟩ : ∃ N, N = l.length := ⟨_, rfl⟩
    have hN2 : k.length = N := by omega
    rw [hN2, ← hN]
    have HN := hide (And.intro hN hN2)
    have hbN : N ≤ 268435456 := by omega
    clear hl hl' hN hN2
    go_enter Try.func20, Try.ntmps20
    go_wp2
    go_loopw [5] (fun i wx => ∃ j : Nat, j ≤ N ∧ i = .int .i64 j ∧ ((∀ i, i < j → l.getD i 0 = k.getD i 0) ∧ Below w.heap.size w wx)) (fun i _ => N - (intOf i).toNat)
    case atStart => exact ⟨0, Nat.zero_le _, rfl, fun i hi => by omega, Below.refl _ _⟩
    case round =>
      obtain ⟨j, hj, rfl, hG⟩ := hrel
      have HG := hide hG
      clear hG
      by_cases hlt : j < N
      · have hi : (j : Int) < (N : Int) := by omega
        have cA := (HA.out.keep HG.out.2).cell (i := j) (by rw [← HN.out.1]; exact hlt)
        have cB := (HB.out.keep HG.out.2).cell (i := j) (by rw [HN.out.2]; exact hlt)
        obtain ⟨x, hx⟩ : ∃ x, x = l.getD j 0 := ⟨_, rfl⟩
        obtain ⟨y, hy⟩ : ∃ y, y = k.getD j 0 := ⟨_, rfl⟩
        rw [← hx] at cA
        rw [← hy] at cB
        have HX := hide hx
        have HY := hide hy
        clear hx hy
        by_cases e : x = y
        · subst e
          have q0 : ((x : Int) == (x : Int)) = true := by simp
          go_wp2
          go_quiet (fail)
          go_wp2
          go_roundw
          case rel =>
            refine ⟨j + 1, by omega, by go_num, fun i hi => ?_, bt HG.out.2 (drN _ _)⟩
            by_cases e : i = j
            · subst e; rw [← HX.out, ← HY.out]
            · exact HG.out.1 i (by omega)
          case measure => simp [intOf]; omega
        · have q0 : ((x : Int) == (y : Int)) = false := eqf (by omega)
          have q1 : ¬ (x : Int) = (y : Int) := by omega
          go_wp2
          go_quiet (fail)
          go_wp2
          go_ret
          refine ⟨?_, bt HG.out.2 (drN _ _)⟩
          rw [decide_eq_false (fun e' => e (by rw [HX.out, HY.out, e']))]
          rfl
      · obtain rfl : N = j := by omega
        go_wp2
        go_ret
        refine ⟨?_, HG.out.2⟩
        rw [decide_eq_true (hd N HG.out.1 HN.out.1)]
        rfl
  · have hne : ((l.length : Int) == (k.length : Int)) = false := eqf (by omega)
    have hne2 : ¬ (l.length : Int) = (k.length : Int) := by omega
    have hd : decide (l = k) = false := decide_eq_false fun e => hl (by rw [e])
    rw [hd]
    clear hd hl
    generalize l.length = n1 at *
    generalize k.length = n2 at *
    go_enter Try.func20, Try.ntmps20
    go_wp2
    go_ret
    exact ⟨rfl, Below.refl _ _⟩
end Go.Proofs.Ytlflcdjaknnfaab
