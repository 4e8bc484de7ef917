import Derived.Test.YtkdgpkaebbiapaaUYNC
import Derived.Test.YtkdgpkaebbiapaaUO
import Derived.Test.YtkdgpkaebbiapaaUYJ
import Derived.BigQuiet
import Derived.Deep.CutRange
import Derived.Deep.RegionHeld3
namespace Go.Proofs.Ytkdgpkaebbiapaa
set_option linter.unusedVariables false
open Go.RowKit
attribute [local go_sem] run_store_fn

/-! ### do: a call of kind 0 -/
set_option maxHeartbeats 4000000 in
set_option maxRecDepth 20000 in
theorem do0_any (Z : Nat → Prop) (w : World) (X m : Nat) (D : Dat) (o : Opv) (hk : o.k = 0) (hW : Wk Z w X m D) (ho : o.ok w Z) (hm : m ≤ 1954687338620) :
    Calls Try.prog 6 #[pt X, .agg o.cs.toArray] w (Did Z w X m) := by
  obtain ⟨k, who, tt, lo, hi, n, aL, L, cL⟩ := o
  obtain ⟨s, hs, hS1⟩ := slot_any w who ho.who
  obtain ⟨s2, hs2, hS2⟩ := slot_any w tt ho.tt
  have S1 := hide hS1
  have S2 := hide hS2
  have HO := hide ho
  clear hS1 hS2
  obtain rfl : k = 0 := hk
  unfold Opv.cs pt
  simp only
  have nmlo := nm_wrap lo
  have nmhi := nm_wrap hi
  obtain ⟨lo', hlo⟩ : ∃ x, IntKind.i64.wrap lo = x := ⟨_, rfl⟩
  obtain ⟨hi', hhi⟩ : ∃ x, IntKind.i64.wrap hi = x := ⟨_, rfl⟩
  rw [hlo] at nmlo
  rw [hhi] at nmhi
  have ELO := hide (show lo = lo' ∧ hi = hi' from ⟨by rw [← hlo]; exact (wrapI HO.out.lo.1 HO.out.lo.2).symm, by rw [← hhi]; exact (wrapI HO.out.hi.1 HO.out.hi.2).symm⟩)
  have cvlo : IntKind.i64.wrap lo' = lo' := wrapI nmlo.n64.1 nmlo.n64.2
  have cvhi : IntKind.i64.wrap hi' = hi' := wrapI nmhi.n64.1 nmhi.n64.2
  have NLO := hide nmlo
  have NHI := hide nmhi
  obtain ⟨nL, hnL⟩ : ∃ nL : Nat, nL = L.length := ⟨_, rfl⟩
  rw [← hnL]
  have NLL := hide hnL
  clear nmlo nmhi hnL ho
  obtain ⟨W0, hW0⟩ : ∃ W0, w.alloc (.cells #[.int .i64 0, .int .i64 who, .int .i64 tt, .int .i64 lo, .int .i64 hi, .int .i64 n, .slice aL nL cL] 39) = W0 := ⟨_, rfl⟩
  have b0 : Below w.heap.size w W0 := by rw [← hW0]; exact al _ _
  have box : W0.heap[w.heap.size]? = some (.cells #[.int .i64 0, .int .i64 who, .int .i64 tt, .int .i64 lo, .int .i64 hi, .int .i64 n, .slice aL nL cL] 39 (0, 0)) := by rw [← hW0]; exact World.alloc_heap_new w _
  have q0 : W0.cell? ⟨w.heap.size, 0, none⟩ = some (.int .i64 0) := by rw [cell_of_row _ _ _ _ _ _ box]; rfl
  have q1 : W0.cell? ⟨w.heap.size, 1, none⟩ = some (.int .i64 who) := by rw [cell_of_row _ _ _ _ _ _ box]; rfl
  have q2 : W0.cell? ⟨w.heap.size, 2, none⟩ = some (.int .i64 tt) := by rw [cell_of_row _ _ _ _ _ _ box]; rfl
  have q3 : W0.cell? ⟨w.heap.size, 3, none⟩ = some (.int .i64 lo) := by rw [cell_of_row _ _ _ _ _ _ box]; rfl
  have q4 : W0.cell? ⟨w.heap.size, 4, none⟩ = some (.int .i64 hi) := by rw [cell_of_row _ _ _ _ _ _ box]; rfl
  have q5 : W0.cell? ⟨w.heap.size, 5, none⟩ = some (.int .i64 n) := by rw [cell_of_row _ _ _ _ _ _ box]; rfl
  have BOX := hide box
  have B0 := hide b0
  have HW := hide hW
  obtain ⟨c, hc⟩ := (hW.keep b0).wc
  obtain ⟨p1, p2⟩ := hc.cellP hs
  unfold pt at p1 p2
  clear hc hW box b0
  go_enter Try.func6, Try.ntmps6
  go_wp2_with fail
  try rw [hW0]
  clear hW0
  obtain ⟨bx, hbx⟩ : ∃ bx : Nat, w.heap.size = bx := ⟨_, rfl⟩
  rw [hbx] at q0 q1 q2 q3 q4 q5 BOX ⊢
  have BX := hide hbx
  clear hbx
  go_quiet (first | exact Calls.quiet_of_same (S1.out _) | exact Calls.quiet_of_same (S2.out _))
  revert nq
  intro m1
  go_wp2_with fail
  go_quiet (fail)
  revert nq
  intro m2
  go_wp2_with fail
  obtain ⟨elo, ehi⟩ := ELO.out
  go_quiet (fail)
  obtain ⟨W, hWW⟩ : ∃ W, ((W0.drewN m1).drewN m2).drewN nq = W := ⟨_, rfl⟩
  clear elo ehi
  have bW : Below w.heap.size w W := by rw [← hWW]; exact bt (bt (bt B0.out (drews _ _)) (drews _ _)) (drews _ _)
  have q0 : W.cell? ⟨bx, 0, none⟩ = some (.int .i64 0) := by rw [← hWW]; exact q0
  have q3 : W.cell? ⟨bx, 3, none⟩ = some (.int .i64 lo) := by rw [← hWW]; exact q3
  have q5 : W.cell? ⟨bx, 5, none⟩ = some (.int .i64 n) := by rw [← hWW]; exact q5
  have BOX := hide (show W.heap[bx]? = some (.cells #[.int .i64 0, .int .i64 who, .int .i64 tt, .int .i64 lo, .int .i64 hi, .int .i64 n, .slice aL nL cL] 39 (0, 0)) by rw [← hWW]; exact BOX.out)
  rw [hWW]
  have BW := hide bW
  have HW := hide (HW.out.keep bW)
  have SE := hide (HW.out.eq s hs)
  have LN := hide (HW.out.len s hs)
  obtain ⟨c, hc⟩ := HW.out.wc
  have ST := hide (hc.st s hs)
  have RT := hide (hc.rt s hs)
  have pa := hc.cellP hs2
  have pb := hc.cellA
  have fX := hc.free
  have WC := hide hc
  rw [← SE.out] at RT
  clear hc hWW bW q1 q2 q4
  have C1 := hide (Add_any W (D.P s) (D.pa s) (D.pc s) (D.S s) lo' hi' ST.out NLO.out NHI.out (by have := LN.out; omega))
  clear pa pb fX p1 p2 q3 q5
  go_wp2_with fail
  refine C1.out.mono ?_
  rintro e W1 ⟨rfl, a1, cap1, L1, t1, t2, t3, t4, t5⟩
  obtain ⟨c1, h1, z1⟩ := WC.out.putP hs t1 (.inl rfl) t4 t5
  have R1 : Rt W1 (D.R s) (D.ra s) (D.rc s) (D.Q s) := h1.rt s hs
  rw [← SE.out] at R1
  have R1' := hide R1
  have C2 := hide (rAdd_any W1 (D.R s) (D.ra s) (D.rc s) (D.S s) lo' hi' R1 NLO.out.n64 NHI.out.n64 (by have := LN.out; omega))
  have T1 := hide t1
  have T2 := hide t2
  have T3 := hide t3
  have T4 := hide t4
  have T5 := hide t5
  clear t1 t2 t3 t4 t5 h1 z1 R1
  obtain ⟨v1, hv1⟩ : ∃ v : Nat, min (nb (fun z => !has (D.S s) z) lo' (hi' - lo' + 1).toNat) mxi = v := ⟨_, rfl⟩
  rw [hv1]
  have V1 := hide hv1
  clear hv1
  go_wp2_with fail
  refine C2.out.mono ?_
  rintro e W2 ⟨a2, cap2, R2, rfl, u1, u2, u3, u4, u5⟩
  have eqq : min (sz R2 - sz (D.S s)) mxi = v1 := by
    rw [← V1.out, add_count R1'.out.can u1.can R1'.out.bnd u1.bnd NLO.out.n64 NHI.out.n64 u2]
  rw [eqq]
  have FIN := hide (HW.out.turn hs T1.out T4.out T5.out u1 (fun z hz => by rcases u4 z hz with ⟨y, hy, _⟩ | h; (cases hy); exact .inr h) u5 (fun z => by rw [T2.out z, u2 z]) (by have := T3.out; have := LN.out; omega))
  have BB := hide (But.ofBelow (S := fun k => ¬ Z k) BW.out)
  clear eqq u1 u2 u3 u4 u5
  go_wp2
  go_ret
  obtain ⟨D', f1, f2⟩ := FIN.out
  exact ⟨by simp, D', f1, BB.out.trans f2 (fun _ _ h => h)⟩
end Go.Proofs.Ytkdgpkaebbiapaa

namespace Go.Proofs.Ytkdgpkaebbiapaa
set_option linter.unusedVariables false
open Go.RowKit
attribute [local go_sem] run_store_fn

/-! ### do: a call of kind 1 -/
set_option maxHeartbeats 4000000 in
set_option maxRecDepth 20000 in
theorem do1_any (Z : Nat → Prop) (w : World) (X m : Nat) (D : Dat) (o : Opv) (hk : o.k = 1) (hW : Wk Z w X m D) (ho : o.ok w Z) (hm : m ≤ 1954687338620) :
    Calls Try.prog 6 #[pt X, .agg o.cs.toArray] w (Did Z w X m) := by
  obtain ⟨k, who, tt, lo, hi, n, aL, L, cL⟩ := o
  obtain ⟨s, hs, hS1⟩ := slot_any w who ho.who
  obtain ⟨s2, hs2, hS2⟩ := slot_any w tt ho.tt
  have S1 := hide hS1
  have S2 := hide hS2
  have HO := hide ho
  clear hS1 hS2
  obtain rfl : k = 1 := hk
  unfold Opv.cs pt
  simp only
  have nmlo := nm_wrap lo
  have nmhi := nm_wrap hi
  obtain ⟨lo', hlo⟩ : ∃ x, IntKind.i64.wrap lo = x := ⟨_, rfl⟩
  obtain ⟨hi', hhi⟩ : ∃ x, IntKind.i64.wrap hi = x := ⟨_, rfl⟩
  rw [hlo] at nmlo
  rw [hhi] at nmhi
  have ELO := hide (show lo = lo' ∧ hi = hi' from ⟨by rw [← hlo]; exact (wrapI HO.out.lo.1 HO.out.lo.2).symm, by rw [← hhi]; exact (wrapI HO.out.hi.1 HO.out.hi.2).symm⟩)
  have cvlo : IntKind.i64.wrap lo' = lo' := wrapI nmlo.n64.1 nmlo.n64.2
  have cvhi : IntKind.i64.wrap hi' = hi' := wrapI nmhi.n64.1 nmhi.n64.2
  have NLO := hide nmlo
  have NHI := hide nmhi
  obtain ⟨nL, hnL⟩ : ∃ nL : Nat, nL = L.length := ⟨_, rfl⟩
  rw [← hnL]
  have NLL := hide hnL
  clear nmlo nmhi hnL ho
  obtain ⟨W0, hW0⟩ : ∃ W0, w.alloc (.cells #[.int .i64 1, .int .i64 who, .int .i64 tt, .int .i64 lo, .int .i64 hi, .int .i64 n, .slice aL nL cL] 39) = W0 := ⟨_, rfl⟩
  have b0 : Below w.heap.size w W0 := by rw [← hW0]; exact al _ _
  have box : W0.heap[w.heap.size]? = some (.cells #[.int .i64 1, .int .i64 who, .int .i64 tt, .int .i64 lo, .int .i64 hi, .int .i64 n, .slice aL nL cL] 39 (0, 0)) := by rw [← hW0]; exact World.alloc_heap_new w _
  have q0 : W0.cell? ⟨w.heap.size, 0, none⟩ = some (.int .i64 1) := by rw [cell_of_row _ _ _ _ _ _ box]; rfl
  have q1 : W0.cell? ⟨w.heap.size, 1, none⟩ = some (.int .i64 who) := by rw [cell_of_row _ _ _ _ _ _ box]; rfl
  have q2 : W0.cell? ⟨w.heap.size, 2, none⟩ = some (.int .i64 tt) := by rw [cell_of_row _ _ _ _ _ _ box]; rfl
  have q3 : W0.cell? ⟨w.heap.size, 3, none⟩ = some (.int .i64 lo) := by rw [cell_of_row _ _ _ _ _ _ box]; rfl
  have q4 : W0.cell? ⟨w.heap.size, 4, none⟩ = some (.int .i64 hi) := by rw [cell_of_row _ _ _ _ _ _ box]; rfl
  have q5 : W0.cell? ⟨w.heap.size, 5, none⟩ = some (.int .i64 n) := by rw [cell_of_row _ _ _ _ _ _ box]; rfl
  have BOX := hide box
  have B0 := hide b0
  have HW := hide hW
  obtain ⟨c, hc⟩ := (hW.keep b0).wc
  obtain ⟨p1, p2⟩ := hc.cellP hs
  unfold pt at p1 p2
  clear hc hW box b0
  go_enter Try.func6, Try.ntmps6
  go_wp2_with fail
  try rw [hW0]
  clear hW0
  obtain ⟨bx, hbx⟩ : ∃ bx : Nat, w.heap.size = bx := ⟨_, rfl⟩
  rw [hbx] at q0 q1 q2 q3 q4 q5 BOX ⊢
  have BX := hide hbx
  clear hbx
  go_quiet (first | exact Calls.quiet_of_same (S1.out _) | exact Calls.quiet_of_same (S2.out _))
  revert nq
  intro m1
  go_wp2_with fail
  go_quiet (fail)
  revert nq
  intro m2
  go_wp2_with fail
  obtain ⟨elo, ehi⟩ := ELO.out
  go_quiet (fail)
  obtain ⟨W, hWW⟩ : ∃ W, ((W0.drewN m1).drewN m2).drewN nq = W := ⟨_, rfl⟩
  clear elo ehi
  have bW : Below w.heap.size w W := by rw [← hWW]; exact bt (bt (bt B0.out (drews _ _)) (drews _ _)) (drews _ _)
  have q0 : W.cell? ⟨bx, 0, none⟩ = some (.int .i64 1) := by rw [← hWW]; exact q0
  have q3 : W.cell? ⟨bx, 3, none⟩ = some (.int .i64 lo) := by rw [← hWW]; exact q3
  have q5 : W.cell? ⟨bx, 5, none⟩ = some (.int .i64 n) := by rw [← hWW]; exact q5
  have BOX := hide (show W.heap[bx]? = some (.cells #[.int .i64 1, .int .i64 who, .int .i64 tt, .int .i64 lo, .int .i64 hi, .int .i64 n, .slice aL nL cL] 39 (0, 0)) by rw [← hWW]; exact BOX.out)
  rw [hWW]
  have BW := hide bW
  have HW := hide (HW.out.keep bW)
  have SE := hide (HW.out.eq s hs)
  have LN := hide (HW.out.len s hs)
  obtain ⟨c, hc⟩ := HW.out.wc
  have ST := hide (hc.st s hs)
  have RT := hide (hc.rt s hs)
  have pa := hc.cellP hs2
  have pb := hc.cellA
  have fX := hc.free
  have WC := hide hc
  rw [← SE.out] at RT
  clear hc hWW bW q1 q2 q4
  have C1 := hide (Remove_any W (D.P s) (D.pa s) (D.pc s) (D.S s) lo' hi' ST.out NLO.out NHI.out (by have := LN.out; omega))
  clear pa pb fX p1 p2 q3 q5
  go_wp2_with fail
  refine C1.out.mono ?_
  rintro e W1 ⟨rfl, a1, cap1, L1, t1, t2, t3, t4, t5⟩
  obtain ⟨c1, h1, z1⟩ := WC.out.putP hs t1 (.inl rfl) t4 t5
  have R1 : Rt W1 (D.R s) (D.ra s) (D.rc s) (D.Q s) := h1.rt s hs
  rw [← SE.out] at R1
  have R1' := hide R1
  have C2 := hide (rRemove_any W1 (D.R s) (D.ra s) (D.rc s) (D.S s) lo' hi' R1 NLO.out.n64 NHI.out.n64 (by have := LN.out; omega))
  have T1 := hide t1
  have T2 := hide t2
  have T3 := hide t3
  have T4 := hide t4
  have T5 := hide t5
  clear t1 t2 t3 t4 t5 h1 z1 R1
  obtain ⟨v1, hv1⟩ : ∃ v : Nat, min (nb (has (D.S s)) lo' (hi' - lo' + 1).toNat) mxi = v := ⟨_, rfl⟩
  rw [hv1]
  have V1 := hide hv1
  clear hv1
  go_wp2_with fail
  refine C2.out.mono ?_
  rintro e W2 ⟨a2, cap2, R2, rfl, u1, u2, u4, u5⟩
  have eqq : min (sz (D.S s) - sz R2) mxi = v1 := by
    rw [← V1.out, rem_count R1'.out.can u1.can R1'.out.bnd u1.bnd NLO.out.n64 NHI.out.n64 u2]
  rw [eqq]
  have FIN := hide (HW.out.turn hs T1.out T4.out T5.out u1 u4 u5 (fun z => by rw [T2.out z, u2 z]) (by have := T3.out; have := LN.out; omega))
  have BB := hide (But.ofBelow (S := fun k => ¬ Z k) BW.out)
  clear eqq u1 u2 u4 u5
  go_wp2
  go_ret
  obtain ⟨D', f1, f2⟩ := FIN.out
  exact ⟨by simp, D', f1, BB.out.trans f2 (fun _ _ h => h)⟩
end Go.Proofs.Ytkdgpkaebbiapaa

namespace Go.Proofs.Ytkdgpkaebbiapaa
set_option linter.unusedVariables false
open Go.RowKit
attribute [local go_sem] run_store_fn

/-! ### do: a call of kind 2 -/
set_option maxHeartbeats 4000000 in
set_option maxRecDepth 20000 in
theorem do2_any (Z : Nat → Prop) (w : World) (X m : Nat) (D : Dat) (o : Opv) (hk : o.k = 2) (hW : Wk Z w X m D) (ho : o.ok w Z) (hm : m ≤ 1954687338620) :
    Calls Try.prog 6 #[pt X, .agg o.cs.toArray] w (Did Z w X m) := by
  obtain ⟨k, who, tt, lo, hi, n, aL, L, cL⟩ := o
  obtain ⟨s, hs, hS1⟩ := slot_any w who ho.who
  obtain ⟨s2, hs2, hS2⟩ := slot_any w tt ho.tt
  have S1 := hide hS1
  have S2 := hide hS2
  have HO := hide ho
  clear hS1 hS2
  obtain rfl : k = 2 := hk
  unfold Opv.cs pt
  simp only
  have nmlo := nm_wrap lo
  have nmhi := nm_wrap hi
  obtain ⟨lo', hlo⟩ : ∃ x, IntKind.i64.wrap lo = x := ⟨_, rfl⟩
  obtain ⟨hi', hhi⟩ : ∃ x, IntKind.i64.wrap hi = x := ⟨_, rfl⟩
  rw [hlo] at nmlo
  rw [hhi] at nmhi
  have ELO := hide (show lo = lo' ∧ hi = hi' from ⟨by rw [← hlo]; exact (wrapI HO.out.lo.1 HO.out.lo.2).symm, by rw [← hhi]; exact (wrapI HO.out.hi.1 HO.out.hi.2).symm⟩)
  have cvlo : IntKind.i64.wrap lo' = lo' := wrapI nmlo.n64.1 nmlo.n64.2
  have cvhi : IntKind.i64.wrap hi' = hi' := wrapI nmhi.n64.1 nmhi.n64.2
  have NLO := hide nmlo
  have NHI := hide nmhi
  obtain ⟨nL, hnL⟩ : ∃ nL : Nat, nL = L.length := ⟨_, rfl⟩
  rw [← hnL]
  have NLL := hide hnL
  clear nmlo nmhi hnL ho
  obtain ⟨W0, hW0⟩ : ∃ W0, w.alloc (.cells #[.int .i64 2, .int .i64 who, .int .i64 tt, .int .i64 lo, .int .i64 hi, .int .i64 n, .slice aL nL cL] 39) = W0 := ⟨_, rfl⟩
  have b0 : Below w.heap.size w W0 := by rw [← hW0]; exact al _ _
  have box : W0.heap[w.heap.size]? = some (.cells #[.int .i64 2, .int .i64 who, .int .i64 tt, .int .i64 lo, .int .i64 hi, .int .i64 n, .slice aL nL cL] 39 (0, 0)) := by rw [← hW0]; exact World.alloc_heap_new w _
  have q0 : W0.cell? ⟨w.heap.size, 0, none⟩ = some (.int .i64 2) := by rw [cell_of_row _ _ _ _ _ _ box]; rfl
  have q1 : W0.cell? ⟨w.heap.size, 1, none⟩ = some (.int .i64 who) := by rw [cell_of_row _ _ _ _ _ _ box]; rfl
  have q2 : W0.cell? ⟨w.heap.size, 2, none⟩ = some (.int .i64 tt) := by rw [cell_of_row _ _ _ _ _ _ box]; rfl
  have q3 : W0.cell? ⟨w.heap.size, 3, none⟩ = some (.int .i64 lo) := by rw [cell_of_row _ _ _ _ _ _ box]; rfl
  have q4 : W0.cell? ⟨w.heap.size, 4, none⟩ = some (.int .i64 hi) := by rw [cell_of_row _ _ _ _ _ _ box]; rfl
  have q5 : W0.cell? ⟨w.heap.size, 5, none⟩ = some (.int .i64 n) := by rw [cell_of_row _ _ _ _ _ _ box]; rfl
  have BOX := hide box
  have B0 := hide b0
  have HW := hide hW
  obtain ⟨c, hc⟩ := (hW.keep b0).wc
  obtain ⟨p1, p2⟩ := hc.cellP hs
  unfold pt at p1 p2
  clear hc hW box b0
  go_enter Try.func6, Try.ntmps6
  go_wp2_with fail
  try rw [hW0]
  clear hW0
  obtain ⟨bx, hbx⟩ : ∃ bx : Nat, w.heap.size = bx := ⟨_, rfl⟩
  rw [hbx] at q0 q1 q2 q3 q4 q5 BOX ⊢
  have BX := hide hbx
  clear hbx
  go_quiet (first | exact Calls.quiet_of_same (S1.out _) | exact Calls.quiet_of_same (S2.out _))
  revert nq
  intro m1
  go_wp2_with fail
  go_quiet (fail)
  revert nq
  intro m2
  go_wp2_with fail
  obtain ⟨elo, ehi⟩ := ELO.out
  go_quiet (fail)
  obtain ⟨W, hWW⟩ : ∃ W, ((W0.drewN m1).drewN m2).drewN nq = W := ⟨_, rfl⟩
  clear elo ehi
  have bW : Below w.heap.size w W := by rw [← hWW]; exact bt (bt (bt B0.out (drews _ _)) (drews _ _)) (drews _ _)
  have q0 : W.cell? ⟨bx, 0, none⟩ = some (.int .i64 2) := by rw [← hWW]; exact q0
  have q3 : W.cell? ⟨bx, 3, none⟩ = some (.int .i64 lo) := by rw [← hWW]; exact q3
  have q5 : W.cell? ⟨bx, 5, none⟩ = some (.int .i64 n) := by rw [← hWW]; exact q5
  have BOX := hide (show W.heap[bx]? = some (.cells #[.int .i64 2, .int .i64 who, .int .i64 tt, .int .i64 lo, .int .i64 hi, .int .i64 n, .slice aL nL cL] 39 (0, 0)) by rw [← hWW]; exact BOX.out)
  rw [hWW]
  have BW := hide bW
  have HW := hide (HW.out.keep bW)
  have SE := hide (HW.out.eq s hs)
  have LN := hide (HW.out.len s hs)
  obtain ⟨c, hc⟩ := HW.out.wc
  have ST := hide (hc.st s hs)
  have RT := hide (hc.rt s hs)
  have pa := hc.cellP hs2
  have pb := hc.cellA
  have fX := hc.free
  have WC := hide hc
  rw [← SE.out] at RT
  clear hc hWW bW q1 q2 q4
  have C1 := hide (Has_any W (D.P s) (D.pa s) (D.pc s) (D.S s) lo' ST.out)
  clear pa pb fX p1 p2 q3 q5
  go_wp2_with fail
  refine C1.out.mono ?_
  rintro e W1 ⟨rfl, b1⟩
  have C2 := hide (rHas_any W1 (D.R s) (D.ra s) (D.rc s) (D.S s) lo' (RT.out.keep b1))
  go_wp2_with fail
  refine C2.out.mono ?_
  rintro e W2 ⟨rfl, b2⟩
  have FIN := hide (HW.out.same (bt b1 b2))
  have BB := hide (But.ofBelow (S := fun k => ¬ Z k) BW.out)
  go_wp2
  go_ret
  obtain ⟨D', f1, f2⟩ := FIN.out
  exact ⟨by simp, D', f1, BB.out.trans f2 (fun _ _ h => h)⟩
end Go.Proofs.Ytkdgpkaebbiapaa

namespace Go.Proofs.Ytkdgpkaebbiapaa
set_option linter.unusedVariables false
open Go.RowKit
attribute [local go_sem] run_store_fn

/-! ### do: a call of kind 3 -/
set_option maxHeartbeats 4000000 in
set_option maxRecDepth 20000 in
theorem do3_any (Z : Nat → Prop) (w : World) (X m : Nat) (D : Dat) (o : Opv) (hk : o.k = 3) (hW : Wk Z w X m D) (ho : o.ok w Z) (hm : m ≤ 1954687338620) :
    Calls Try.prog 6 #[pt X, .agg o.cs.toArray] w (Did Z w X m) := by
  obtain ⟨k, who, tt, lo, hi, n, aL, L, cL⟩ := o
  obtain ⟨s, hs, hS1⟩ := slot_any w who ho.who
  obtain ⟨s2, hs2, hS2⟩ := slot_any w tt ho.tt
  have S1 := hide hS1
  have S2 := hide hS2
  have HO := hide ho
  clear hS1 hS2
  obtain rfl : k = 3 := hk
  unfold Opv.cs pt
  simp only
  have nmlo := nm_wrap lo
  have nmhi := nm_wrap hi
  obtain ⟨lo', hlo⟩ : ∃ x, IntKind.i64.wrap lo = x := ⟨_, rfl⟩
  obtain ⟨hi', hhi⟩ : ∃ x, IntKind.i64.wrap hi = x := ⟨_, rfl⟩
  rw [hlo] at nmlo
  rw [hhi] at nmhi
  have ELO := hide (show lo = lo' ∧ hi = hi' from ⟨by rw [← hlo]; exact (wrapI HO.out.lo.1 HO.out.lo.2).symm, by rw [← hhi]; exact (wrapI HO.out.hi.1 HO.out.hi.2).symm⟩)
  have cvlo : IntKind.i64.wrap lo' = lo' := wrapI nmlo.n64.1 nmlo.n64.2
  have cvhi : IntKind.i64.wrap hi' = hi' := wrapI nmhi.n64.1 nmhi.n64.2
  have NLO := hide nmlo
  have NHI := hide nmhi
  obtain ⟨nL, hnL⟩ : ∃ nL : Nat, nL = L.length := ⟨_, rfl⟩
  rw [← hnL]
  have NLL := hide hnL
  clear nmlo nmhi hnL ho
  obtain ⟨W0, hW0⟩ : ∃ W0, w.alloc (.cells #[.int .i64 3, .int .i64 who, .int .i64 tt, .int .i64 lo, .int .i64 hi, .int .i64 n, .slice aL nL cL] 39) = W0 := ⟨_, rfl⟩
  have b0 : Below w.heap.size w W0 := by rw [← hW0]; exact al _ _
  have box : W0.heap[w.heap.size]? = some (.cells #[.int .i64 3, .int .i64 who, .int .i64 tt, .int .i64 lo, .int .i64 hi, .int .i64 n, .slice aL nL cL] 39 (0, 0)) := by rw [← hW0]; exact World.alloc_heap_new w _
  have q0 : W0.cell? ⟨w.heap.size, 0, none⟩ = some (.int .i64 3) := by rw [cell_of_row _ _ _ _ _ _ box]; rfl
  have q1 : W0.cell? ⟨w.heap.size, 1, none⟩ = some (.int .i64 who) := by rw [cell_of_row _ _ _ _ _ _ box]; rfl
  have q2 : W0.cell? ⟨w.heap.size, 2, none⟩ = some (.int .i64 tt) := by rw [cell_of_row _ _ _ _ _ _ box]; rfl
  have q3 : W0.cell? ⟨w.heap.size, 3, none⟩ = some (.int .i64 lo) := by rw [cell_of_row _ _ _ _ _ _ box]; rfl
  have q4 : W0.cell? ⟨w.heap.size, 4, none⟩ = some (.int .i64 hi) := by rw [cell_of_row _ _ _ _ _ _ box]; rfl
  have q5 : W0.cell? ⟨w.heap.size, 5, none⟩ = some (.int .i64 n) := by rw [cell_of_row _ _ _ _ _ _ box]; rfl
  have BOX := hide box
  have B0 := hide b0
  have HW := hide hW
  obtain ⟨c, hc⟩ := (hW.keep b0).wc
  obtain ⟨p1, p2⟩ := hc.cellP hs
  unfold pt at p1 p2
  clear hc hW box b0
  go_enter Try.func6, Try.ntmps6
  go_wp2_with fail
  try rw [hW0]
  clear hW0
  obtain ⟨bx, hbx⟩ : ∃ bx : Nat, w.heap.size = bx := ⟨_, rfl⟩
  rw [hbx] at q0 q1 q2 q3 q4 q5 BOX ⊢
  have BX := hide hbx
  clear hbx
  go_quiet (first | exact Calls.quiet_of_same (S1.out _) | exact Calls.quiet_of_same (S2.out _))
  revert nq
  intro m1
  go_wp2_with fail
  go_quiet (fail)
  revert nq
  intro m2
  go_wp2_with fail
  obtain ⟨elo, ehi⟩ := ELO.out
  go_quiet (fail)
  obtain ⟨W, hWW⟩ : ∃ W, ((W0.drewN m1).drewN m2).drewN nq = W := ⟨_, rfl⟩
  clear elo ehi
  have bW : Below w.heap.size w W := by rw [← hWW]; exact bt (bt (bt B0.out (drews _ _)) (drews _ _)) (drews _ _)
  have q0 : W.cell? ⟨bx, 0, none⟩ = some (.int .i64 3) := by rw [← hWW]; exact q0
  have q3 : W.cell? ⟨bx, 3, none⟩ = some (.int .i64 lo) := by rw [← hWW]; exact q3
  have q5 : W.cell? ⟨bx, 5, none⟩ = some (.int .i64 n) := by rw [← hWW]; exact q5
  have BOX := hide (show W.heap[bx]? = some (.cells #[.int .i64 3, .int .i64 who, .int .i64 tt, .int .i64 lo, .int .i64 hi, .int .i64 n, .slice aL nL cL] 39 (0, 0)) by rw [← hWW]; exact BOX.out)
  rw [hWW]
  have BW := hide bW
  have HW := hide (HW.out.keep bW)
  have SE := hide (HW.out.eq s hs)
  have LN := hide (HW.out.len s hs)
  obtain ⟨c, hc⟩ := HW.out.wc
  have ST := hide (hc.st s hs)
  have RT := hide (hc.rt s hs)
  have pa := hc.cellP hs2
  have pb := hc.cellA
  have fX := hc.free
  have WC := hide hc
  rw [← SE.out] at RT
  clear hc hWW bW q1 q2 q4
  have C1 := hide (Len_any W (D.P s) (D.pa s) (D.pc s) (D.S s) ST.out)
  clear pa pb fX p1 p2 q3 q5
  go_wp2_with fail
  refine C1.out.mono ?_
  rintro e W1 ⟨rfl, b1⟩
  have C2 := hide (rLen_any W1 (D.R s) (D.ra s) (D.rc s) (D.S s) (RT.out.keep b1))
  obtain ⟨v1, hv1⟩ : ∃ v : Nat, min (sz (D.S s)) mxi = v := ⟨_, rfl⟩
  rw [hv1] at C2 ⊢
  clear hv1
  go_wp2_with fail
  refine C2.out.mono ?_
  rintro e W2 ⟨rfl, b2⟩
  have FIN := hide (HW.out.same (bt b1 b2))
  have BB := hide (But.ofBelow (S := fun k => ¬ Z k) BW.out)
  go_wp2
  go_ret
  obtain ⟨D', f1, f2⟩ := FIN.out
  exact ⟨by simp, D', f1, BB.out.trans f2 (fun _ _ h => h)⟩
end Go.Proofs.Ytkdgpkaebbiapaa

namespace Go.Proofs.Ytkdgpkaebbiapaa
set_option linter.unusedVariables false
open Go.RowKit
attribute [local go_sem] run_store_fn

/-! ### do: a call of kind 4 -/
set_option maxHeartbeats 4000000 in
set_option maxRecDepth 20000 in
theorem do4_any (Z : Nat → Prop) (w : World) (X m : Nat) (D : Dat) (o : Opv) (hk : o.k = 4) (hW : Wk Z w X m D) (ho : o.ok w Z) (hm : m ≤ 1954687338620) :
    Calls Try.prog 6 #[pt X, .agg o.cs.toArray] w (Did Z w X m) := by
  obtain ⟨k, who, tt, lo, hi, n, aL, L, cL⟩ := o
  obtain ⟨s, hs, hS1⟩ := slot_any w who ho.who
  obtain ⟨s2, hs2, hS2⟩ := slot_any w tt ho.tt
  have S1 := hide hS1
  have S2 := hide hS2
  have HO := hide ho
  clear hS1 hS2
  obtain rfl : k = 4 := hk
  unfold Opv.cs pt
  simp only
  have nmlo := nm_wrap lo
  have nmhi := nm_wrap hi
  obtain ⟨lo', hlo⟩ : ∃ x, IntKind.i64.wrap lo = x := ⟨_, rfl⟩
  obtain ⟨hi', hhi⟩ : ∃ x, IntKind.i64.wrap hi = x := ⟨_, rfl⟩
  rw [hlo] at nmlo
  rw [hhi] at nmhi
  have ELO := hide (show lo = lo' ∧ hi = hi' from ⟨by rw [← hlo]; exact (wrapI HO.out.lo.1 HO.out.lo.2).symm, by rw [← hhi]; exact (wrapI HO.out.hi.1 HO.out.hi.2).symm⟩)
  have cvlo : IntKind.i64.wrap lo' = lo' := wrapI nmlo.n64.1 nmlo.n64.2
  have cvhi : IntKind.i64.wrap hi' = hi' := wrapI nmhi.n64.1 nmhi.n64.2
  have NLO := hide nmlo
  have NHI := hide nmhi
  obtain ⟨nL, hnL⟩ : ∃ nL : Nat, nL = L.length := ⟨_, rfl⟩
  rw [← hnL]
  have NLL := hide hnL
  clear nmlo nmhi hnL ho
  obtain ⟨W0, hW0⟩ : ∃ W0, w.alloc (.cells #[.int .i64 4, .int .i64 who, .int .i64 tt, .int .i64 lo, .int .i64 hi, .int .i64 n, .slice aL nL cL] 39) = W0 := ⟨_, rfl⟩
  have b0 : Below w.heap.size w W0 := by rw [← hW0]; exact al _ _
  have box : W0.heap[w.heap.size]? = some (.cells #[.int .i64 4, .int .i64 who, .int .i64 tt, .int .i64 lo, .int .i64 hi, .int .i64 n, .slice aL nL cL] 39 (0, 0)) := by rw [← hW0]; exact World.alloc_heap_new w _
  have q0 : W0.cell? ⟨w.heap.size, 0, none⟩ = some (.int .i64 4) := by rw [cell_of_row _ _ _ _ _ _ box]; rfl
  have q1 : W0.cell? ⟨w.heap.size, 1, none⟩ = some (.int .i64 who) := by rw [cell_of_row _ _ _ _ _ _ box]; rfl
  have q2 : W0.cell? ⟨w.heap.size, 2, none⟩ = some (.int .i64 tt) := by rw [cell_of_row _ _ _ _ _ _ box]; rfl
  have q3 : W0.cell? ⟨w.heap.size, 3, none⟩ = some (.int .i64 lo) := by rw [cell_of_row _ _ _ _ _ _ box]; rfl
  have q4 : W0.cell? ⟨w.heap.size, 4, none⟩ = some (.int .i64 hi) := by rw [cell_of_row _ _ _ _ _ _ box]; rfl
  have q5 : W0.cell? ⟨w.heap.size, 5, none⟩ = some (.int .i64 n) := by rw [cell_of_row _ _ _ _ _ _ box]; rfl
  have BOX := hide box
  have B0 := hide b0
  have HW := hide hW
  obtain ⟨c, hc⟩ := (hW.keep b0).wc
  obtain ⟨p1, p2⟩ := hc.cellP hs
  unfold pt at p1 p2
  clear hc hW box b0
  go_enter Try.func6, Try.ntmps6
  go_wp2_with fail
  try rw [hW0]
  clear hW0
  obtain ⟨bx, hbx⟩ : ∃ bx : Nat, w.heap.size = bx := ⟨_, rfl⟩
  rw [hbx] at q0 q1 q2 q3 q4 q5 BOX ⊢
  have BX := hide hbx
  clear hbx
  go_quiet (first | exact Calls.quiet_of_same (S1.out _) | exact Calls.quiet_of_same (S2.out _))
  revert nq
  intro m1
  go_wp2_with fail
  go_quiet (fail)
  revert nq
  intro m2
  go_wp2_with fail
  obtain ⟨elo, ehi⟩ := ELO.out
  go_quiet (fail)
  obtain ⟨W, hWW⟩ : ∃ W, ((W0.drewN m1).drewN m2).drewN nq = W := ⟨_, rfl⟩
  clear elo ehi
  have bW : Below w.heap.size w W := by rw [← hWW]; exact bt (bt (bt B0.out (drews _ _)) (drews _ _)) (drews _ _)
  have q0 : W.cell? ⟨bx, 0, none⟩ = some (.int .i64 4) := by rw [← hWW]; exact q0
  have q3 : W.cell? ⟨bx, 3, none⟩ = some (.int .i64 lo) := by rw [← hWW]; exact q3
  have q5 : W.cell? ⟨bx, 5, none⟩ = some (.int .i64 n) := by rw [← hWW]; exact q5
  have BOX := hide (show W.heap[bx]? = some (.cells #[.int .i64 4, .int .i64 who, .int .i64 tt, .int .i64 lo, .int .i64 hi, .int .i64 n, .slice aL nL cL] 39 (0, 0)) by rw [← hWW]; exact BOX.out)
  rw [hWW]
  have BW := hide bW
  have HW := hide (HW.out.keep bW)
  have SE := hide (HW.out.eq s hs)
  have LN := hide (HW.out.len s hs)
  obtain ⟨c, hc⟩ := HW.out.wc
  have ST := hide (hc.st s hs)
  have RT := hide (hc.rt s hs)
  have pa := hc.cellP hs2
  have pb := hc.cellA
  have fX := hc.free
  have WC := hide hc
  rw [← SE.out] at RT
  clear hc hWW bW q1 q2 q4
  have C1 := hide (Lowest_any W (D.P s) (D.pa s) (D.pc s) (D.S s) ST.out)
  have C2 := hide (rLowest_any W (D.R s) (D.ra s) (D.rc s) (D.S s) RT.out)
  have lw : Nm (low (D.S s)) := by
    have hb := ST.out.bnd
    generalize D.S s = T at *
    cases T with
    | nil => show Nm 0; unfold Nm; omega
    | cons r T => exact (hb r (by simp)).1
  have cvl : IntKind.i64.wrap (low (D.S s)) = low (D.S s) := wrapI lw.n64.1 lw.n64.2
  generalize low (D.S s) = y at *
  generalize (!(D.S s).isEmpty) = f at *
  clear pa pb fX p1 p2 q3 q5 lw
  go_wp2_with fail
  refine C1.out.mono ?_
  rintro e W1 ⟨rfl, rfl⟩
  go_wp2_with fail
  refine C2.out.mono ?_
  rintro e W2 ⟨rfl, rfl⟩
  have FIN := hide (HW.out.same (Below.refl _ _))
  have BB := hide (But.ofBelow (S := fun k => ¬ Z k) BW.out)
  have z1 : (f == f) = true := by simp
  have z2 : (y == y) = true := by simp
  go_wp2
  go_ret
  obtain ⟨D', f1, f2⟩ := FIN.out
  exact ⟨by simp, D', f1, BB.out.trans f2 (fun _ _ h => h)⟩
end Go.Proofs.Ytkdgpkaebbiapaa
