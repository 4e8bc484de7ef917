import Derived.Test.YtkdgpkaebbiapaaUYNC
import Derived.Test.YtkdgpkaebbiapaaUO
import Derived.Test.YtkdgpkaebbiapaaUYJ
import Derived.BigQuiet
import Derived.Deep.CutRange
import Derived.Deep.RegionHeld3
namespace Go.Proofs.Ytkdgpkaebbiapaa
set_option linter.unusedVariables false
open Go.RowKit
attribute [local go_sem] run_store_fn

/-! ### do: a call of kind 11 -/
set_option maxHeartbeats 4000000 in
set_option maxRecDepth 20000 in
theorem do11_any (Z : Nat → Prop) (w : World) (X m : Nat) (D : Dat) (o : Opv) (hk : o.k = 11) (hW : Wk Z w X m D) (ho : o.ok w Z) (hm : m ≤ 1954687338620) :
    Calls Try.prog 6 #[pt X, .agg o.cs.toArray] w (Did Z w X m) := by
  obtain ⟨k, who, tt, lo, hi, n, aL, L, cL⟩ := o
  obtain ⟨s, hs, hS1⟩ := slot_any w who ho.who
  obtain ⟨s2, hs2, hS2⟩ := slot_any w tt ho.tt
  have S1 := hide hS1
  have S2 := hide hS2
  have HO := hide ho
  clear hS1 hS2
  obtain rfl : k = 11 := hk
  unfold Opv.cs pt
  simp only
  have nmlo := nm_wrap lo
  have nmhi := nm_wrap hi
  obtain ⟨lo', hlo⟩ : ∃ x, IntKind.i64.wrap lo = x := ⟨_, rfl⟩
  obtain ⟨hi', hhi⟩ : ∃ x, IntKind.i64.wrap hi = x := ⟨_, rfl⟩
  rw [hlo] at nmlo
  rw [hhi] at nmhi
  have ELO := hide (show lo = lo' ∧ hi = hi' from ⟨by rw [← hlo]; exact (wrapI HO.out.lo.1 HO.out.lo.2).symm, by rw [← hhi]; exact (wrapI HO.out.hi.1 HO.out.hi.2).symm⟩)
  have cvlo : IntKind.i64.wrap lo' = lo' := wrapI nmlo.n64.1 nmlo.n64.2
  have cvhi : IntKind.i64.wrap hi' = hi' := wrapI nmhi.n64.1 nmhi.n64.2
  have NLO := hide nmlo
  have NHI := hide nmhi
  obtain ⟨nL, hnL⟩ : ∃ nL : Nat, nL = L.length := ⟨_, rfl⟩
  rw [← hnL]
  have NLL := hide hnL
  clear nmlo nmhi hnL ho
  obtain ⟨W0, hW0⟩ : ∃ W0, w.alloc (.cells #[.int .i64 11, .int .i64 who, .int .i64 tt, .int .i64 lo, .int .i64 hi, .int .i64 n, .slice aL nL cL] 39) = W0 := ⟨_, rfl⟩
  have b0 : Below w.heap.size w W0 := by rw [← hW0]; exact al _ _
  have box : W0.heap[w.heap.size]? = some (.cells #[.int .i64 11, .int .i64 who, .int .i64 tt, .int .i64 lo, .int .i64 hi, .int .i64 n, .slice aL nL cL] 39 (0, 0)) := by rw [← hW0]; exact World.alloc_heap_new w _
  have q0 : W0.cell? ⟨w.heap.size, 0, none⟩ = some (.int .i64 11) := by rw [cell_of_row _ _ _ _ _ _ box]; rfl
  have q1 : W0.cell? ⟨w.heap.size, 1, none⟩ = some (.int .i64 who) := by rw [cell_of_row _ _ _ _ _ _ box]; rfl
  have q2 : W0.cell? ⟨w.heap.size, 2, none⟩ = some (.int .i64 tt) := by rw [cell_of_row _ _ _ _ _ _ box]; rfl
  have q3 : W0.cell? ⟨w.heap.size, 3, none⟩ = some (.int .i64 lo) := by rw [cell_of_row _ _ _ _ _ _ box]; rfl
  have q4 : W0.cell? ⟨w.heap.size, 4, none⟩ = some (.int .i64 hi) := by rw [cell_of_row _ _ _ _ _ _ box]; rfl
  have q5 : W0.cell? ⟨w.heap.size, 5, none⟩ = some (.int .i64 n) := by rw [cell_of_row _ _ _ _ _ _ box]; rfl
  have BOX := hide box
  have B0 := hide b0
  have HW := hide hW
  obtain ⟨c, hc⟩ := (hW.keep b0).wc
  obtain ⟨p1, p2⟩ := hc.cellP hs
  unfold pt at p1 p2
  clear hc hW box b0
  go_enter Try.func6, Try.ntmps6
  go_wp2_with fail
  try rw [hW0]
  clear hW0
  obtain ⟨bx, hbx⟩ : ∃ bx : Nat, w.heap.size = bx := ⟨_, rfl⟩
  rw [hbx] at q0 q1 q2 q3 q4 q5 BOX ⊢
  have BX := hide hbx
  clear hbx
  go_quiet (first | exact Calls.quiet_of_same (S1.out _) | exact Calls.quiet_of_same (S2.out _))
  revert nq
  intro m1
  go_wp2_with fail
  go_quiet (fail)
  revert nq
  intro m2
  go_wp2_with fail
  obtain ⟨elo, ehi⟩ := ELO.out
  go_quiet (fail)
  obtain ⟨W, hWW⟩ : ∃ W, ((W0.drewN m1).drewN m2).drewN nq = W := ⟨_, rfl⟩
  clear elo ehi
  have bW : Below w.heap.size w W := by rw [← hWW]; exact bt (bt (bt B0.out (drews _ _)) (drews _ _)) (drews _ _)
  have q0 : W.cell? ⟨bx, 0, none⟩ = some (.int .i64 11) := by rw [← hWW]; exact q0
  have q3 : W.cell? ⟨bx, 3, none⟩ = some (.int .i64 lo) := by rw [← hWW]; exact q3
  have q5 : W.cell? ⟨bx, 5, none⟩ = some (.int .i64 n) := by rw [← hWW]; exact q5
  have BOX := hide (show W.heap[bx]? = some (.cells #[.int .i64 11, .int .i64 who, .int .i64 tt, .int .i64 lo, .int .i64 hi, .int .i64 n, .slice aL nL cL] 39 (0, 0)) by rw [← hWW]; exact BOX.out)
  rw [hWW]
  have BW := hide bW
  have HW := hide (HW.out.keep bW)
  have SE := hide (HW.out.eq s hs)
  have LN := hide (HW.out.len s hs)
  obtain ⟨c, hc⟩ := HW.out.wc
  have ST := hide (hc.st s hs)
  have RT := hide (hc.rt s hs)
  have pa := hc.cellP hs2
  have pb := hc.cellA
  have fX := hc.free
  have WC := hide hc
  rw [← SE.out] at RT
  clear hc hWW bW q1 q2 q4
  obtain ⟨pb1, _, _⟩ := pb
  have fX6 := fX 6
  have C1 := hide fun (V : World) (hb : Below W.heap.size W V) => All_any V (D.P s) (D.pa s) (D.pc s) (D.S s) (ST.out.keep hb)
  have C2 := hide fun (V : World) (hb : Below W.heap.size W V) => rCopy_any V (D.R s) (D.ra s) (D.rc s) (D.S s) (RT.out.keep hb)
  have BB := hide (But.ofBelow (S := fun k => ¬ Z k) BW.out)
  clear pa fX p1 p2 q3
  go_wp2_with fail
  have S1 : W.drew.cell? ⟨X, 6, none⟩ = some (.slice D.aw D.nw D.cw) := pb1
  have T1 := hide (show Below W.heap.size W W.drew from drews W 1)
  clear q5 q0
  go_region_law
    (first
      | (refine step_call rfl 24 _ _ rfl (enters_of Try.func24 (by kernel_rfl) rfl) _ (by first | (simp [Act.eval]; done) | simp [Act.eval, Act.put]) (C1.out _ T1.out) ?_; rintro e w8 ⟨E, g, rfl, h1, h2, h3, h4, h5, h6⟩; refine ⟨_, rfl, ?_⟩; have S1 := (h6.cell (p := ⟨X, 6, none⟩) (block_lt_of_cell S1)).trans S1; have T2 := hide (bt T1.out h6); have A1 := hide (Nat.le_trans T1.out.size h1); have A2 := hide (Nat.le_trans T1.out.size h2); have A3 := hide h3; have A4 := hide h4; have A5 := hide h5; have T1 := hide T2.out; clear h1 h2 h3 h4 h5 h6)
      | (refine step_call rfl 21 _ _ rfl (enters_of Try.func21 (by kernel_rfl) rfl) _ (by simp [Act.eval]) (C2.out _ T1.out) ?_; rintro e w9 ⟨b', a', cap', rfl, h1, h2, h3, h6⟩; refine ⟨_, rfl, ?_⟩; have S1 := (h6.cell (p := ⟨X, 6, none⟩) (block_lt_of_cell S1)).trans S1; have T2 := hide (bt T1.out h6); obtain ⟨g2, cp, w10, hrun, x1, x2, x3⟩ := HW.out.walk WC.out hm T2.out ((h6.cell (p := ⟨E, 0, none⟩) (block_lt_of_cell A3.out)).trans A3.out) (A4.out.keep h6) h1 ST.out.bnd (Nat.lt_of_lt_of_le A5.out h6.size) A1.out A2.out (Nat.le_trans T1.out.size h2) (fun x hx => Nat.le_trans T1.out.size (h3 x hx)); have X3 := hide x3; have S2 := (al w9 (.cells #[.func (.func 46) #[] #[.pointer (some ⟨E, 0, none⟩)], .pointer (some ⟨b', 0, none⟩)] 63)).cell (p := ⟨X, 6, none⟩) (block_lt_of_cell S1) |>.trans S1; have T1 := hide T2.out; clear h1 h2 h3 h6 x3)
      | (refine step_run rfl _ _ 29 rfl _ _ _ (by simp [Act.eval]) (by simp [Act.eval]) hrun ?_))
  all_goals
    go_wp2
    go_ret
    obtain ⟨D', f1, f2⟩ := X3.out
    exact ⟨rfl, D', f1, BB.out.trans f2 (fun _ _ h => h)⟩
end Go.Proofs.Ytkdgpkaebbiapaa

namespace Go.Proofs.Ytkdgpkaebbiapaa
set_option linter.unusedVariables false
open Go.RowKit
attribute [local go_sem] run_store_fn

/-! ### do: a call of kind 12 -/
set_option maxHeartbeats 4000000 in
set_option maxRecDepth 20000 in
theorem do12_any (Z : Nat → Prop) (w : World) (X m : Nat) (D : Dat) (o : Opv) (hk : o.k = 12) (hW : Wk Z w X m D) (ho : o.ok w Z) (hm : m ≤ 1954687338620) :
    Calls Try.prog 6 #[pt X, .agg o.cs.toArray] w (Did Z w X m) := by
  obtain ⟨k, who, tt, lo, hi, n, aL, L, cL⟩ := o
  obtain ⟨s, hs, hS1⟩ := slot_any w who ho.who
  obtain ⟨s2, hs2, hS2⟩ := slot_any w tt ho.tt
  have S1 := hide hS1
  have S2 := hide hS2
  have HO := hide ho
  clear hS1 hS2
  obtain rfl : k = 12 := hk
  unfold Opv.cs pt
  simp only
  have nmlo := nm_wrap lo
  have nmhi := nm_wrap hi
  obtain ⟨lo', hlo⟩ : ∃ x, IntKind.i64.wrap lo = x := ⟨_, rfl⟩
  obtain ⟨hi', hhi⟩ : ∃ x, IntKind.i64.wrap hi = x := ⟨_, rfl⟩
  rw [hlo] at nmlo
  rw [hhi] at nmhi
  have ELO := hide (show lo = lo' ∧ hi = hi' from ⟨by rw [← hlo]; exact (wrapI HO.out.lo.1 HO.out.lo.2).symm, by rw [← hhi]; exact (wrapI HO.out.hi.1 HO.out.hi.2).symm⟩)
  have cvlo : IntKind.i64.wrap lo' = lo' := wrapI nmlo.n64.1 nmlo.n64.2
  have cvhi : IntKind.i64.wrap hi' = hi' := wrapI nmhi.n64.1 nmhi.n64.2
  have NLO := hide nmlo
  have NHI := hide nmhi
  obtain ⟨nL, hnL⟩ : ∃ nL : Nat, nL = L.length := ⟨_, rfl⟩
  rw [← hnL]
  have NLL := hide hnL
  clear nmlo nmhi hnL ho
  obtain ⟨W0, hW0⟩ : ∃ W0, w.alloc (.cells #[.int .i64 12, .int .i64 who, .int .i64 tt, .int .i64 lo, .int .i64 hi, .int .i64 n, .slice aL nL cL] 39) = W0 := ⟨_, rfl⟩
  have b0 : Below w.heap.size w W0 := by rw [← hW0]; exact al _ _
  have box : W0.heap[w.heap.size]? = some (.cells #[.int .i64 12, .int .i64 who, .int .i64 tt, .int .i64 lo, .int .i64 hi, .int .i64 n, .slice aL nL cL] 39 (0, 0)) := by rw [← hW0]; exact World.alloc_heap_new w _
  have q0 : W0.cell? ⟨w.heap.size, 0, none⟩ = some (.int .i64 12) := by rw [cell_of_row _ _ _ _ _ _ box]; rfl
  have q1 : W0.cell? ⟨w.heap.size, 1, none⟩ = some (.int .i64 who) := by rw [cell_of_row _ _ _ _ _ _ box]; rfl
  have q2 : W0.cell? ⟨w.heap.size, 2, none⟩ = some (.int .i64 tt) := by rw [cell_of_row _ _ _ _ _ _ box]; rfl
  have q3 : W0.cell? ⟨w.heap.size, 3, none⟩ = some (.int .i64 lo) := by rw [cell_of_row _ _ _ _ _ _ box]; rfl
  have q4 : W0.cell? ⟨w.heap.size, 4, none⟩ = some (.int .i64 hi) := by rw [cell_of_row _ _ _ _ _ _ box]; rfl
  have q5 : W0.cell? ⟨w.heap.size, 5, none⟩ = some (.int .i64 n) := by rw [cell_of_row _ _ _ _ _ _ box]; rfl
  have BOX := hide box
  have B0 := hide b0
  have HW := hide hW
  obtain ⟨c, hc⟩ := (hW.keep b0).wc
  obtain ⟨p1, p2⟩ := hc.cellP hs
  unfold pt at p1 p2
  clear hc hW box b0
  go_enter Try.func6, Try.ntmps6
  go_wp2_with fail
  try rw [hW0]
  clear hW0
  obtain ⟨bx, hbx⟩ : ∃ bx : Nat, w.heap.size = bx := ⟨_, rfl⟩
  rw [hbx] at q0 q1 q2 q3 q4 q5 BOX ⊢
  have BX := hide hbx
  clear hbx
  go_quiet (first | exact Calls.quiet_of_same (S1.out _) | exact Calls.quiet_of_same (S2.out _))
  revert nq
  intro m1
  go_wp2_with fail
  go_quiet (fail)
  revert nq
  intro m2
  go_wp2_with fail
  obtain ⟨elo, ehi⟩ := ELO.out
  go_quiet (fail)
  obtain ⟨W, hWW⟩ : ∃ W, ((W0.drewN m1).drewN m2).drewN nq = W := ⟨_, rfl⟩
  clear elo ehi
  have bW : Below w.heap.size w W := by rw [← hWW]; exact bt (bt (bt B0.out (drews _ _)) (drews _ _)) (drews _ _)
  have q0 : W.cell? ⟨bx, 0, none⟩ = some (.int .i64 12) := by rw [← hWW]; exact q0
  have q3 : W.cell? ⟨bx, 3, none⟩ = some (.int .i64 lo) := by rw [← hWW]; exact q3
  have q5 : W.cell? ⟨bx, 5, none⟩ = some (.int .i64 n) := by rw [← hWW]; exact q5
  have BOX := hide (show W.heap[bx]? = some (.cells #[.int .i64 12, .int .i64 who, .int .i64 tt, .int .i64 lo, .int .i64 hi, .int .i64 n, .slice aL nL cL] 39 (0, 0)) by rw [← hWW]; exact BOX.out)
  rw [hWW]
  have BW := hide bW
  have HW := hide (HW.out.keep bW)
  have SE := hide (HW.out.eq s hs)
  have LN := hide (HW.out.len s hs)
  obtain ⟨c, hc⟩ := HW.out.wc
  have ST := hide (hc.st s hs)
  have RT := hide (hc.rt s hs)
  have pa := hc.cellP hs2
  have pb := hc.cellA
  have fX := hc.free
  have WC := hide hc
  rw [← SE.out] at RT
  clear hc hWW bW q1 q2 q4
  obtain ⟨pb1, _, _⟩ := pb
  obtain ⟨kk, hkk, hL⟩ := least_any W n HO.out.n
  obtain ⟨k2, hk2, hL2⟩ := least_any W lo HO.out.lo
  have LE := hide hL
  have LE2 := hide hL2
  have BB := hide (But.ofBelow (S := fun k => ¬ Z k) BW.out)
  have hnw := HW.out.nw
  clear hL hL2 pa fX p1 p2
  by_cases h0 : D.nw = 0
  · rw [h0] at pb1
    go_wp2
    go_ret
    obtain ⟨D', f1, f2⟩ := HW.out.same (Below.refl _ _)
    exact ⟨rfl, D', f1, BB.out.trans f2 (fun _ _ h => h)⟩
  · obtain ⟨idx, hidx⟩ : ∃ idx : Nat, idx = kk % D.nw := ⟨_, rfl⟩
    have hlt : idx < D.nw := by rw [hidx]; exact Nat.mod_lt _ (by omega)
    obtain ⟨f, p, k1, k2', hwk⟩ := WC.out.wk idx hlt
    obtain ⟨ga, hga⟩ := WC.out.ww.addr (show 0 < D.nw by omega)
    have ww := WC.out.ww
    rw [hga] at ww pb1
    have g0 := ww.cell k1
    have g1 := ww.cell k2'
    obtain ⟨E, g, b, a, cap, T, rfl, rfl, h3, h4, h5, h6, h7, _, _, _, _⟩ := hwk
    unfold pt at g0 g1
    obtain ⟨nw, hnwe⟩ : ∃ nw : Nat, D.nw = nw := ⟨_, rfl⟩
    rw [hnwe] at pb1 hidx hlt h0 hnw
    have e1 : ((kk : Int)).tmod (nw : Int) = (idx : Int) := by rw [Int.tmod_eq_emod_of_nonneg (by omega), hidx]; omega
    have e2 : (kk : Int) % (nw : Int) = (idx : Int) := by rw [hidx]; omega
    have e0 : ((nw : Int) == 0) = false := by simp [h0]
    have e3 : ¬ (nw : Int) = 0 := by omega
    have l1 : (0 : Int) ≤ (idx : Int) := by omega
    have l2 : (idx : Int) < (nw : Int) := by omega
    have HN := hide (show ∀ r ∈ T, r.1 ≤ r.2 ∧ Nm r.1 ∧ Nm r.2 from fun r hr => ⟨h5.can.1 r hr, h6 r hr⟩)
    have H3 := hide h3
    have H4 := hide h4
    have H5 := hide h5
    have C3 := hide fun (V : World) (hb : Below W.heap.size W V) =>
      goes_any V W #[.pointer (some ⟨E, 0, none⟩)] T _ (all_seq W E (some ⟨g, 0, none⟩) T.length T H3.out H4.out H5.out.len HN.out) (But.ofBelow hb)
        (fun q hq => by
          have h2 : q < W.heap.size := by
            rcases hq with rfl | ⟨x, hx, rfl⟩
            · exact block_lt_of_cell H3.out
            · cases hx; exact h7
          exact ⟨Nat.lt_of_lt_of_le h2 hb.size, h2⟩) b a cap (H5.out.keep hb) k2 (by omega) (nums_nm HN.out)
    have z := al W (.cells #[.nilFunc, .pointer none] 63)
    have q5z := (z.cell (p := ⟨bx, 5, none⟩) (block_lt_of_cell q5)).trans q5
    have pbz := (z.cell (p := ⟨X, 6, none⟩) (block_lt_of_cell pb1)).trans pb1
    have g0z := (z.cell (p := ⟨ga, idx * 2, none⟩) (block_lt_of_cell g0)).trans g0
    have g1z := (z.cell (p := ⟨ga, idx * 2 + 1, none⟩) (block_lt_of_cell g1)).trans g1
    have TA := al W (.cells #[.func (.func 46) #[] #[.pointer (some ⟨E, 0, none⟩)], .pointer (some ⟨b, 0, none⟩)] 63)
    have r3 := (TA.cell (p := ⟨bx, 3, none⟩) (block_lt_of_cell q3)).trans q3
    have rb := World.alloc_heap_new W (.cells #[.func (.func 46) #[] #[.pointer (some ⟨E, 0, none⟩)], .pointer (some ⟨b, 0, none⟩)] 63)
    have r0 : (W.alloc (.cells #[.func (.func 46) #[] #[.pointer (some ⟨E, 0, none⟩)], .pointer (some ⟨b, 0, none⟩)] 63)).cell? ⟨W.heap.size, 0, none⟩ = some (.func (.func 46) #[] #[.pointer (some ⟨E, 0, none⟩)]) := by rw [cell_of_row _ _ _ _ _ _ rb]; rfl
    have r1 : (W.alloc (.cells #[.func (.func 46) #[] #[.pointer (some ⟨E, 0, none⟩)], .pointer (some ⟨b, 0, none⟩)] 63)).cell? ⟨W.heap.size, 1, none⟩ = some (.pointer (some ⟨b, 0, none⟩)) := by rw [cell_of_row _ _ _ _ _ _ rb]; rfl
    have TA' := hide TA
    clear ww k1 k2' hga h3 h4 h5 h6 hidx hnwe z TA rb
    have SS := hide (show ∀ V, Below W.heap.size W V → V.cell? ⟨bx, 5, none⟩ = some (.int .i64 n) ∧ V.cell? ⟨X, 6, none⟩ = some (.slice (some ⟨ga, 0, none⟩) nw D.cw) ∧ V.cell? ⟨ga, idx * 2, none⟩ = some (.func (.func 46) #[] #[.pointer (some ⟨E, 0, none⟩)]) ∧ V.cell? ⟨ga, idx * 2 + 1, none⟩ = some (.pointer (some ⟨b, 0, none⟩)) from fun V hb => ⟨(hb.cell (p := ⟨bx, 5, none⟩) (block_lt_of_cell q5)).trans q5, (hb.cell (p := ⟨X, 6, none⟩) (block_lt_of_cell pb1)).trans pb1, (hb.cell (p := ⟨ga, idx * 2, none⟩) (block_lt_of_cell g0)).trans g0, (hb.cell (p := ⟨ga, idx * 2 + 1, none⟩) (block_lt_of_cell g1)).trans g1⟩)
    have S1 := SS.out W (Below.refl _ _)
    have S2 := SS.out _ (al W (.cells #[.nilFunc, .pointer none] 63))
    have S3 := SS.out _ (al W (.cells #[.func (.func 46) #[] #[.pointer (some ⟨E, 0, none⟩)], .pointer none] 63))
    have S4 := SS.out _ (al W (.cells #[.func (.func 46) #[] #[.pointer (some ⟨E, 0, none⟩)], .pointer (some ⟨b, 0, none⟩)] 63))
    clear q5z pbz g0z g1z q5 g0 g1
    go_wp2_with fail
    go_region_held3 (fun V => V.cell? ⟨bx, 5, none⟩ = some (.int .i64 n) ∧ V.cell? ⟨X, 6, none⟩ = some (.slice (some ⟨ga, 0, none⟩) nw D.cw) ∧ V.cell? ⟨ga, idx * 2, none⟩ = some (.func (.func 46) #[] #[.pointer (some ⟨E, 0, none⟩)]) ∧ V.cell? ⟨ga, idx * 2 + 1, none⟩ = some (.pointer (some ⟨b, 0, none⟩)))
      (first | exact S1 | exact S2 | exact S3 | exact S4)
      (first | (go_at_call 25; refine (LE.out _).mono ?_; rintro e w8 ⟨rfl, rfl⟩))
    all_goals
      go_wp2_with fail
      have U1 := And.intro r0 (And.intro r1 r3)
      have T1 := hide (show Below W.heap.size W (W.alloc (.cells #[.func (.func 46) #[] #[.pointer (some ⟨E, 0, none⟩)], .pointer (some ⟨b, 0, none⟩)] 63)).drew.drew from bt (bt TA'.out (drews _ 1)) (drews _ 1))
      clear S1 S2 S3 S4
      go_region_held3 (fun V => V.cell? ⟨W.heap.size, 0, none⟩ = some (.func (.func 46) #[] #[.pointer (some ⟨E, 0, none⟩)]) ∧ V.cell? ⟨W.heap.size, 1, none⟩ = some (.pointer (some ⟨b, 0, none⟩)) ∧ V.cell? ⟨bx, 3, none⟩ = some (.int .i64 lo))
        (first | exact U1)
        (first
          | (go_at_call 25; refine (LE2.out _).mono ?_; rintro e w8 ⟨rfl, rfl⟩)
          | (go_at_call 23; refine (C3.out _ T1.out).mono ?_; rintro e w9 ⟨rfl, h6⟩; have U1 := And.intro ((h6.cell (p := ⟨W.heap.size, 0, none⟩) (block_lt_of_cell (U1.1))).trans U1.1) (And.intro ((h6.cell (p := ⟨W.heap.size, 1, none⟩) (block_lt_of_cell (U1.2.1))).trans U1.2.1) ((h6.cell (p := ⟨bx, 3, none⟩) (block_lt_of_cell (U1.2.2))).trans U1.2.2)); have T1 := hide (bt T1.out h6); clear h6))
      all_goals
        go_wp2
        go_ret
        obtain ⟨D', f1, f2⟩ := HW.out.same T1.out
        exact ⟨by simp, D', f1, BB.out.trans f2 (fun _ _ h => h)⟩
end Go.Proofs.Ytkdgpkaebbiapaa
