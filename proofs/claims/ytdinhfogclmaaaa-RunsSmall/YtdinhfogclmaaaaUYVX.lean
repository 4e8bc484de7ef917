import Derived.Test.YtdinhfogclmaaaaUYR7
import Derived.Test.YtdinhfogclmaaaaUYR9
import Derived.Test.YtdinhfogclmaaaaUYRD
import Derived.Test.YtdinhfogclmaaaaUO
import Derived.Test.YtdinhfogclmaaaaUYJ
import Derived.BigQuiet
import Derived.Deep.CutRange
import Derived.Deep.RegionHeld3
import Derived.Test.YtdinhfogclmaaaaUYNX
import Derived.Test.YtdinhfogclmaaaaUYNY
import Derived.Test.YtdinhfogclmaaaaUYNZ
namespace Go.Proofs.Ytdinhfogclmaaaa
set_option linter.unusedVariables false
open Go.RowKit

/-! ### renew, whole -/
theorem renew_any (Z : Nat → Prop) (w : World) (X m : Nat) (D : Dat) (o : Opv) (hW : Wk Z w X m D) (ho : o.ok w Z) (hm : m ≤ 1954687338620) :
    Calls Try.prog 28 #[pt X, .agg o.cs.toArray] w (Did Z w X m) := by
  by_cases h7 : o.k = 7
  · exact renew7_any Z w X m D o h7 hW ho hm
  · by_cases h9 : o.k = 9
    · exact renew9_any Z w X m D o h9 hW ho hm
    · exact renewD_any Z w X m D o h7 h9 hW ho hm
theorem Opv.ok.keep {o : Opv} {w w' : World} {Z : Nat → Prop} (h : o.ok w Z) (hb : Below w.heap.size w w') : o.ok w' Z := ⟨h.k, h.who, h.tt, h.lo, h.hi, h.n, h.ir.keep hb, h.bnd, h.len, h.z⟩
end Go.Proofs.Ytdinhfogclmaaaa

namespace Go.Proofs.Ytdinhfogclmaaaa
set_option linter.unusedVariables false
open Go.RowKit
attribute [local go_sem] run_store_fn

/-! ### do: a call of kind R -/
set_option maxHeartbeats 4000000 in
set_option maxRecDepth 20000 in
theorem doR_any (Z : Nat → Prop) (w : World) (X m : Nat) (D : Dat) (o : Opv) (hk : o.k ≠ 0 ∧ o.k ≠ 1 ∧ o.k ≠ 2 ∧ o.k ≠ 3 ∧ o.k ≠ 4 ∧ o.k ≠ 5 ∧ o.k ≠ 6 ∧ o.k ≠ 8 ∧ o.k ≠ 11 ∧ o.k ≠ 12) (hW : Wk Z w X m D) (ho : o.ok w Z) (hm : m ≤ 1954687338620) :
    Calls Try.prog 6 #[pt X, .agg o.cs.toArray] w (Did Z w X m) := by
  obtain ⟨k, who, tt, lo, hi, n, aL, L, cL⟩ := o
  obtain ⟨s, hs, hS1⟩ := slot_any w who ho.who
  obtain ⟨s2, hs2, hS2⟩ := slot_any w tt ho.tt
  have S1 := hide hS1
  have S2 := hide hS2
  have HO := hide ho
  clear hS1 hS2
  simp only at hk
  have KB := hide (show (k == 0) = false ∧ (k == 1) = false ∧ (k == 2) = false ∧ (k == 3) = false ∧ (k == 4) = false ∧ (k == 5) = false ∧ (k == 6) = false ∧ (k == 8) = false ∧ (k == 11) = false ∧ (k == 12) = false by simp only [beq_eq_false_iff_ne]; exact hk)
  clear hk
  unfold Opv.cs pt
  simp only
  have nmlo := nm_wrap lo
  have nmhi := nm_wrap hi
  obtain ⟨lo', hlo⟩ : ∃ x, IntKind.i8.wrap lo = x := ⟨_, rfl⟩
  obtain ⟨hi', hhi⟩ : ∃ x, IntKind.i8.wrap hi = x := ⟨_, rfl⟩
  rw [hlo] at nmlo
  rw [hhi] at nmhi
  skip
  have cvlo : IntKind.i64.wrap lo' = lo' := wrapI nmlo.n64.1 nmlo.n64.2
  have cvhi : IntKind.i64.wrap hi' = hi' := wrapI nmhi.n64.1 nmhi.n64.2
  have NLO := hide nmlo
  have NHI := hide nmhi
  obtain ⟨nL, hnL⟩ : ∃ nL : Nat, nL = L.length := ⟨_, rfl⟩
  rw [← hnL]
  have NLL := hide hnL
  clear nmlo nmhi hnL ho
  obtain ⟨W0, hW0⟩ : ∃ W0, w.alloc (.cells #[.int .i64 k, .int .i64 who, .int .i64 tt, .int .i64 lo, .int .i64 hi, .int .i64 n, .slice aL nL cL] 41) = W0 := ⟨_, rfl⟩
  have b0 : Below w.heap.size w W0 := by rw [← hW0]; exact al _ _
  have box : W0.heap[w.heap.size]? = some (.cells #[.int .i64 k, .int .i64 who, .int .i64 tt, .int .i64 lo, .int .i64 hi, .int .i64 n, .slice aL nL cL] 41 (0, 0)) := by rw [← hW0]; exact World.alloc_heap_new w _
  have q0 : W0.cell? ⟨w.heap.size, 0, none⟩ = some (.int .i64 k) := by rw [cell_of_row _ _ _ _ _ _ box]; rfl
  have q1 : W0.cell? ⟨w.heap.size, 1, none⟩ = some (.int .i64 who) := by rw [cell_of_row _ _ _ _ _ _ box]; rfl
  have q2 : W0.cell? ⟨w.heap.size, 2, none⟩ = some (.int .i64 tt) := by rw [cell_of_row _ _ _ _ _ _ box]; rfl
  have q3 : W0.cell? ⟨w.heap.size, 3, none⟩ = some (.int .i64 lo) := by rw [cell_of_row _ _ _ _ _ _ box]; rfl
  have q4 : W0.cell? ⟨w.heap.size, 4, none⟩ = some (.int .i64 hi) := by rw [cell_of_row _ _ _ _ _ _ box]; rfl
  have q5 : W0.cell? ⟨w.heap.size, 5, none⟩ = some (.int .i64 n) := by rw [cell_of_row _ _ _ _ _ _ box]; rfl
  have BOX := hide box
  have B0 := hide b0
  have HW := hide hW
  obtain ⟨c, hc⟩ := (hW.keep b0).wc
  obtain ⟨p1, p2⟩ := hc.cellP hs
  unfold pt at p1 p2
  clear hc hW box b0
  go_enter Try.func6, Try.ntmps6
  go_wp2_with fail
  try rw [hW0]
  clear hW0
  obtain ⟨bx, hbx⟩ : ∃ bx : Nat, w.heap.size = bx := ⟨_, rfl⟩
  rw [hbx] at q0 q1 q2 q3 q4 q5 BOX ⊢
  have BX := hide hbx
  clear hbx
  go_quiet (first | exact Calls.quiet_of_same (S1.out _) | exact Calls.quiet_of_same (S2.out _))
  revert nq
  intro m1
  go_wp2_with fail
  go_quiet (fail)
  revert nq
  intro m2
  go_wp2_with fail
  skip
  go_quiet (fail)
  obtain ⟨W, hWW⟩ : ∃ W, ((W0.drewN m1).drewN m2).drewN nq = W := ⟨_, rfl⟩
  skip
  have bW : Below w.heap.size w W := by rw [← hWW]; exact bt (bt (bt B0.out (drews _ _)) (drews _ _)) (drews _ _)
  have q0 : W.cell? ⟨bx, 0, none⟩ = some (.int .i64 k) := by rw [← hWW]; exact q0
  have q3 : W.cell? ⟨bx, 3, none⟩ = some (.int .i64 lo) := by rw [← hWW]; exact q3
  have q5 : W.cell? ⟨bx, 5, none⟩ = some (.int .i64 n) := by rw [← hWW]; exact q5
  have BOX := hide (show W.heap[bx]? = some (.cells #[.int .i64 k, .int .i64 who, .int .i64 tt, .int .i64 lo, .int .i64 hi, .int .i64 n, .slice aL nL cL] 41 (0, 0)) by rw [← hWW]; exact BOX.out)
  rw [hWW]
  have BW := hide bW
  have HW := hide (HW.out.keep bW)
  have SE := hide (HW.out.eq s hs)
  have LN := hide (HW.out.len s hs)
  obtain ⟨c, hc⟩ := HW.out.wc
  have ST := hide (hc.st s hs)
  have RT := hide (hc.rt s hs)
  have pa := hc.cellP hs2
  have pb := hc.cellA
  have fX := hc.free
  have WC := hide hc
  rw [← SE.out] at RT
  clear hc hWW bW q1 q2 q4
  have r1 : W.cell? ⟨bx, 1, none⟩ = some (.int .i64 who) := by rw [cell_of_row _ _ _ _ _ _ BOX.out]; rfl
  have r2 : W.cell? ⟨bx, 2, none⟩ = some (.int .i64 tt) := by rw [cell_of_row _ _ _ _ _ _ BOX.out]; rfl
  have r4 : W.cell? ⟨bx, 4, none⟩ = some (.int .i64 hi) := by rw [cell_of_row _ _ _ _ _ _ BOX.out]; rfl
  have r6 : W.cell? ⟨bx, 6, none⟩ = some (.slice aL nL cL) := by rw [cell_of_row _ _ _ _ _ _ BOX.out]; rfl
  have BB := hide (But.ofBelow (S := fun k => ¬ Z k) BW.out)
  have C := hide (renew_any Z W X m D ⟨k, who, tt, lo, hi, n, aL, L, cL⟩ HW.out (HO.out.keep BW.out) hm)
  unfold Opv.cs pt at C
  simp only at C
  rw [← NLL.out] at C
  clear pa pb fX p1 p2
  obtain ⟨k0, k1, k2, k3, k4, k5, k6, k8, k11, k12⟩ := KB.out
  go_wp2_with fail
  refine C.out.mono ?_
  rintro e w9 ⟨rfl, D', f1, f2⟩
  have FF := hide (show ∃ D', Wk Z w9 X (m + 1) D' ∧ But (fun k => ¬ Z k) W w9 from ⟨D', f1, f2⟩)
  clear f1 f2
  go_wp2
  go_ret
  obtain ⟨D'', f1, f2⟩ := FF.out
  exact ⟨rfl, D'', f1, BB.out.trans f2 (fun _ _ h => h)⟩
end Go.Proofs.Ytdinhfogclmaaaa

namespace Go.Proofs.Ytdinhfogclmaaaa
set_option linter.unusedVariables false
open Go.RowKit

/-! ### do, whole -/
theorem do_any (Z : Nat → Prop) (w : World) (X m : Nat) (D : Dat) (o : Opv) (hW : Wk Z w X m D) (ho : o.ok w Z) (hm : m ≤ 1954687338620) :
    Calls Try.prog 6 #[pt X, .agg o.cs.toArray] w (Did Z w X m) := by
  by_cases h0 : o.k = 0
  · exact do0_any Z w X m D o h0 hW ho hm
  by_cases h1 : o.k = 1
  · exact do1_any Z w X m D o h1 hW ho hm
  by_cases h2 : o.k = 2
  · exact do2_any Z w X m D o h2 hW ho hm
  by_cases h3 : o.k = 3
  · exact do3_any Z w X m D o h3 hW ho hm
  by_cases h4 : o.k = 4
  · exact do4_any Z w X m D o h4 hW ho hm
  by_cases h5 : o.k = 5
  · exact do5_any Z w X m D o h5 hW ho hm
  by_cases h6 : o.k = 6
  · exact do6_any Z w X m D o h6 hW ho hm
  by_cases h8 : o.k = 8
  · exact do8_any Z w X m D o h8 hW ho hm
  by_cases h11 : o.k = 11
  · exact do11_any Z w X m D o h11 hW ho hm
  by_cases h12 : o.k = 12
  · exact do12_any Z w X m D o h12 hW ho hm
  exact doR_any Z w X m D o ⟨h0, h1, h2, h3, h4, h5, h6, h8, h11, h12⟩ hW ho hm
end Go.Proofs.Ytdinhfogclmaaaa
