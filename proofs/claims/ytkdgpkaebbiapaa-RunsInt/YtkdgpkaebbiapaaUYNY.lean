import Derived.Test.YtkdgpkaebbiapaaUYNC
import Derived.Test.YtkdgpkaebbiapaaUO
import Derived.Test.YtkdgpkaebbiapaaUYJ
import Derived.BigQuiet
import Derived.Deep.CutRange
import Derived.Deep.RegionHeld3
namespace Go.Proofs.Ytkdgpkaebbiapaa
set_option linter.unusedVariables false
open Go.RowKit
attribute [local go_sem] run_store_fn

/-! ### do: a call of kind 5 -/
set_option maxHeartbeats 4000000 in
set_option maxRecDepth 20000 in
theorem do5_any (Z : Nat → Prop) (w : World) (X m : Nat) (D : Dat) (o : Opv) (hk : o.k = 5) (hW : Wk Z w X m D) (ho : o.ok w Z) (hm : m ≤ 1954687338620) :
    Calls Try.prog 6 #[pt X, .agg o.cs.toArray] w (Did Z w X m) := by
  obtain ⟨k, who, tt, lo, hi, n, aL, L, cL⟩ := o
  obtain ⟨s, hs, hS1⟩ := slot_any w who ho.who
  obtain ⟨s2, hs2, hS2⟩ := slot_any w tt ho.tt
  have S1 := hide hS1
  have S2 := hide hS2
  have HO := hide ho
  clear hS1 hS2
  obtain rfl : k = 5 := hk
  unfold Opv.cs pt
  simp only
  have nmlo := nm_wrap lo
  have nmhi := nm_wrap hi
  obtain ⟨lo', hlo⟩ : ∃ x, IntKind.i64.wrap lo = x := ⟨_, rfl⟩
  obtain ⟨hi', hhi⟩ : ∃ x, IntKind.i64.wrap hi = x := ⟨_, rfl⟩
  rw [hlo] at nmlo
  rw [hhi] at nmhi
  have ELO := hide (show lo = lo' ∧ hi = hi' from ⟨by rw [← hlo]; exact (wrapI HO.out.lo.1 HO.out.lo.2).symm, by rw [← hhi]; exact (wrapI HO.out.hi.1 HO.out.hi.2).symm⟩)
  have cvlo : IntKind.i64.wrap lo' = lo' := wrapI nmlo.n64.1 nmlo.n64.2
  have cvhi : IntKind.i64.wrap hi' = hi' := wrapI nmhi.n64.1 nmhi.n64.2
  have NLO := hide nmlo
  have NHI := hide nmhi
  obtain ⟨nL, hnL⟩ : ∃ nL : Nat, nL = L.length := ⟨_, rfl⟩
  rw [← hnL]
  have NLL := hide hnL
  clear nmlo nmhi hnL ho
  obtain ⟨W0, hW0⟩ : ∃ W0, w.alloc (.cells #[.int .i64 5, .int .i64 who, .int .i64 tt, .int .i64 lo, .int .i64 hi, .int .i64 n, .slice aL nL cL] 39) = W0 := ⟨_, rfl⟩
  have b0 : Below w.heap.size w W0 := by rw [← hW0]; exact al _ _
  have box : W0.heap[w.heap.size]? = some (.cells #[.int .i64 5, .int .i64 who, .int .i64 tt, .int .i64 lo, .int .i64 hi, .int .i64 n, .slice aL nL cL] 39 (0, 0)) := by rw [← hW0]; exact World.alloc_heap_new w _
  have q0 : W0.cell? ⟨w.heap.size, 0, none⟩ = some (.int .i64 5) := by rw [cell_of_row _ _ _ _ _ _ box]; rfl
  have q1 : W0.cell? ⟨w.heap.size, 1, none⟩ = some (.int .i64 who) := by rw [cell_of_row _ _ _ _ _ _ box]; rfl
  have q2 : W0.cell? ⟨w.heap.size, 2, none⟩ = some (.int .i64 tt) := by rw [cell_of_row _ _ _ _ _ _ box]; rfl
  have q3 : W0.cell? ⟨w.heap.size, 3, none⟩ = some (.int .i64 lo) := by rw [cell_of_row _ _ _ _ _ _ box]; rfl
  have q4 : W0.cell? ⟨w.heap.size, 4, none⟩ = some (.int .i64 hi) := by rw [cell_of_row _ _ _ _ _ _ box]; rfl
  have q5 : W0.cell? ⟨w.heap.size, 5, none⟩ = some (.int .i64 n) := by rw [cell_of_row _ _ _ _ _ _ box]; rfl
  have BOX := hide box
  have B0 := hide b0
  have HW := hide hW
  obtain ⟨c, hc⟩ := (hW.keep b0).wc
  obtain ⟨p1, p2⟩ := hc.cellP hs
  unfold pt at p1 p2
  clear hc hW box b0
  go_enter Try.func6, Try.ntmps6
  go_wp2_with fail
  try rw [hW0]
  clear hW0
  obtain ⟨bx, hbx⟩ : ∃ bx : Nat, w.heap.size = bx := ⟨_, rfl⟩
  rw [hbx] at q0 q1 q2 q3 q4 q5 BOX ⊢
  have BX := hide hbx
  clear hbx
  go_quiet (first | exact Calls.quiet_of_same (S1.out _) | exact Calls.quiet_of_same (S2.out _))
  revert nq
  intro m1
  go_wp2_with fail
  go_quiet (fail)
  revert nq
  intro m2
  go_wp2_with fail
  obtain ⟨elo, ehi⟩ := ELO.out
  go_quiet (fail)
  obtain ⟨W, hWW⟩ : ∃ W, ((W0.drewN m1).drewN m2).drewN nq = W := ⟨_, rfl⟩
  clear elo ehi
  have bW : Below w.heap.size w W := by rw [← hWW]; exact bt (bt (bt B0.out (drews _ _)) (drews _ _)) (drews _ _)
  have q0 : W.cell? ⟨bx, 0, none⟩ = some (.int .i64 5) := by rw [← hWW]; exact q0
  have q3 : W.cell? ⟨bx, 3, none⟩ = some (.int .i64 lo) := by rw [← hWW]; exact q3
  have q5 : W.cell? ⟨bx, 5, none⟩ = some (.int .i64 n) := by rw [← hWW]; exact q5
  have BOX := hide (show W.heap[bx]? = some (.cells #[.int .i64 5, .int .i64 who, .int .i64 tt, .int .i64 lo, .int .i64 hi, .int .i64 n, .slice aL nL cL] 39 (0, 0)) by rw [← hWW]; exact BOX.out)
  rw [hWW]
  have BW := hide bW
  have HW := hide (HW.out.keep bW)
  have SE := hide (HW.out.eq s hs)
  have LN := hide (HW.out.len s hs)
  obtain ⟨c, hc⟩ := HW.out.wc
  have ST := hide (hc.st s hs)
  have RT := hide (hc.rt s hs)
  have pa := hc.cellP hs2
  have pb := hc.cellA
  have fX := hc.free
  have WC := hide hc
  rw [← SE.out] at RT
  clear hc hWW bW q1 q2 q4
  obtain ⟨_, pb2, pb3⟩ := pb
  have C1 := hide (Runs_any W (D.P s) (D.pa s) (D.pc s) (D.S s) ST.out)
  have BB := hide (But.ofBelow (S := fun k => ¬ Z k) BW.out)
  clear pa fX p1 p2 q3 q5 pb3
  go_wp2_with fail
  refine C1.out.mono ?_
  rintro e W1 ⟨rfl, hV, hb1⟩
  obtain ⟨g2, cp, w2, hrun, x1, x2, c', hc', z'⟩ := HW.out.told1 WC.out hm hb1 hV ST.out.bnd ST.out.len (Nat.le_refl _)
  have y1 := (hb1.cell (p := ⟨X, 7, none⟩) (block_lt_of_cell pb2)).trans pb2
  have y2 := ((al W1 (.cells #[.slice (some ⟨W.heap.size, 0, none⟩) (D.S s).length (D.S s).length] 43)).cell (p := ⟨X, 7, none⟩) (block_lt_of_cell y1)).trans y1
  have y3 : (w2.setCell ⟨X, 7, none⟩ (.slice (some ⟨g2, 0, none⟩) (D.nt + 1) cp)).cell? ⟨X, 8, none⟩ = some (.slice D.an D.nv D.cn) := by rw [cell_of_row _ _ _ _ _ _ hc'.blk]; rfl
  have rt3 := hc'.rt s hs
  have RT3 := hide (show Rt (w2.setCell ⟨X, 7, none⟩ (.slice (some ⟨g2, 0, none⟩) (D.nt + 1) cp)) (D.R s) (D.ra s) (D.rc s) (D.S s) by rw [SE.out]; exact rt3)
  have ZZ := hide z'
  have HC := hide hc'
  clear hV hb1 z' hc' rt3 pb2 q0
  obtain ⟨W3, hW3⟩ : ∃ W3, w2.setCell ⟨X, 7, none⟩ (.slice (some ⟨g2, 0, none⟩) (D.nt + 1) cp) = W3 := ⟨_, rfl⟩
  rw [hW3] at y3 RT3 ZZ HC
  go_wp2_with (at_builtin; refine Lib.wpList_append_run _ rfl _ _ _ _ rfl _ _ rfl rfl _ _ hrun ?_)
  try rw [hW3]
  clear hW3 hrun x1 x2 y1 y2
  have C2 := hide fun (V : World) (hb : Below W3.heap.size W3 V) => rCopy_any V (D.R s) (D.ra s) (D.rc s) (D.S s) (RT3.out.keep hb)
  have CE := hide fun (V : World) (g3 cq : Nat) (v1 : Vs V (some ⟨W.heap.size, 0, none⟩) (D.S s)) (v2 : Rf.Vs V (D.ra s) (D.S s)) => eqRuns_any V (some ⟨W.heap.size, 0, none⟩) (D.ra s) (D.S s).length (D.rc s) (D.S s) v1 v2 ST.out.len ST.out.bnd
  have S1 : W3.drew.cell? ⟨X, 8, none⟩ = some (.slice D.an D.nv D.cn) := y3
  have T1 := hide (show Below W3.heap.size W3 W3.drew from drews W3 1)
  go_region_law
    (first
      | (refine step_call rfl 21 _ _ rfl (enters_of Try.func21 (by kernel_rfl) rfl) _ (by first | (simp [Act.eval]; done) | simp [Act.eval, Act.put]) (C2.out _ T1.out) ?_; rintro e w5 ⟨b', a', cap', rfl, h1, h2, h3, h6⟩; refine ⟨_, rfl, ?_⟩; have S1 := (h6.cell (p := ⟨X, 8, none⟩) (block_lt_of_cell S1)).trans S1; have T2 := hide (bt T1.out h6); obtain ⟨g3, cq, w6, hrun, x1, x2, x3, x4, x5, x6⟩ := HW.out.told2 hs hm ZZ.out HC.out T2.out h1.row (fun x hx => Nat.le_trans T1.out.size (h3 x hx)); have X4 := hide x4; have X5 := hide x5; have X6 := hide x6; have cb := h1.cell; have S2 := ((al w5 (.cells #[.slice a' (D.S s).length cap'] 35)).cell (p := ⟨X, 8, none⟩) (block_lt_of_cell S1)).trans S1; clear h1 h2 h3 h6 x4 x5 x6)
      | (refine step_run rfl _ _ 31 rfl _ _ _ (by simp [Act.eval]) (by simp [Act.eval]) hrun ?_))
  all_goals
    go_wp2_with fail
    refine (CE.out _ g3 cq X4.out X5.out).mono ?_
    rintro e w9 ⟨rfl, h6⟩
    go_wp2
    go_ret
    obtain ⟨D', f1, f2⟩ := X6.out
    exact ⟨rfl, D', f1.keep h6, BB.out.trans (f2.andBelow h6) (fun _ _ h => h)⟩
end Go.Proofs.Ytkdgpkaebbiapaa

namespace Go.Proofs.Ytkdgpkaebbiapaa
set_option linter.unusedVariables false
open Go.RowKit
attribute [local go_sem] run_store_fn

/-! ### do: a call of kind 6 -/
set_option maxHeartbeats 4000000 in
set_option maxRecDepth 20000 in
theorem do6_any (Z : Nat → Prop) (w : World) (X m : Nat) (D : Dat) (o : Opv) (hk : o.k = 6) (hW : Wk Z w X m D) (ho : o.ok w Z) (hm : m ≤ 1954687338620) :
    Calls Try.prog 6 #[pt X, .agg o.cs.toArray] w (Did Z w X m) := by
  obtain ⟨k, who, tt, lo, hi, n, aL, L, cL⟩ := o
  obtain ⟨s, hs, hS1⟩ := slot_any w who ho.who
  obtain ⟨s2, hs2, hS2⟩ := slot_any w tt ho.tt
  have S1 := hide hS1
  have S2 := hide hS2
  have HO := hide ho
  clear hS1 hS2
  obtain rfl : k = 6 := hk
  unfold Opv.cs pt
  simp only
  have nmlo := nm_wrap lo
  have nmhi := nm_wrap hi
  obtain ⟨lo', hlo⟩ : ∃ x, IntKind.i64.wrap lo = x := ⟨_, rfl⟩
  obtain ⟨hi', hhi⟩ : ∃ x, IntKind.i64.wrap hi = x := ⟨_, rfl⟩
  rw [hlo] at nmlo
  rw [hhi] at nmhi
  have ELO := hide (show lo = lo' ∧ hi = hi' from ⟨by rw [← hlo]; exact (wrapI HO.out.lo.1 HO.out.lo.2).symm, by rw [← hhi]; exact (wrapI HO.out.hi.1 HO.out.hi.2).symm⟩)
  have cvlo : IntKind.i64.wrap lo' = lo' := wrapI nmlo.n64.1 nmlo.n64.2
  have cvhi : IntKind.i64.wrap hi' = hi' := wrapI nmhi.n64.1 nmhi.n64.2
  have NLO := hide nmlo
  have NHI := hide nmhi
  obtain ⟨nL, hnL⟩ : ∃ nL : Nat, nL = L.length := ⟨_, rfl⟩
  rw [← hnL]
  have NLL := hide hnL
  clear nmlo nmhi hnL ho
  obtain ⟨W0, hW0⟩ : ∃ W0, w.alloc (.cells #[.int .i64 6, .int .i64 who, .int .i64 tt, .int .i64 lo, .int .i64 hi, .int .i64 n, .slice aL nL cL] 39) = W0 := ⟨_, rfl⟩
  have b0 : Below w.heap.size w W0 := by rw [← hW0]; exact al _ _
  have box : W0.heap[w.heap.size]? = some (.cells #[.int .i64 6, .int .i64 who, .int .i64 tt, .int .i64 lo, .int .i64 hi, .int .i64 n, .slice aL nL cL] 39 (0, 0)) := by rw [← hW0]; exact World.alloc_heap_new w _
  have q0 : W0.cell? ⟨w.heap.size, 0, none⟩ = some (.int .i64 6) := by rw [cell_of_row _ _ _ _ _ _ box]; rfl
  have q1 : W0.cell? ⟨w.heap.size, 1, none⟩ = some (.int .i64 who) := by rw [cell_of_row _ _ _ _ _ _ box]; rfl
  have q2 : W0.cell? ⟨w.heap.size, 2, none⟩ = some (.int .i64 tt) := by rw [cell_of_row _ _ _ _ _ _ box]; rfl
  have q3 : W0.cell? ⟨w.heap.size, 3, none⟩ = some (.int .i64 lo) := by rw [cell_of_row _ _ _ _ _ _ box]; rfl
  have q4 : W0.cell? ⟨w.heap.size, 4, none⟩ = some (.int .i64 hi) := by rw [cell_of_row _ _ _ _ _ _ box]; rfl
  have q5 : W0.cell? ⟨w.heap.size, 5, none⟩ = some (.int .i64 n) := by rw [cell_of_row _ _ _ _ _ _ box]; rfl
  have BOX := hide box
  have B0 := hide b0
  have HW := hide hW
  obtain ⟨c, hc⟩ := (hW.keep b0).wc
  obtain ⟨p1, p2⟩ := hc.cellP hs
  unfold pt at p1 p2
  clear hc hW box b0
  go_enter Try.func6, Try.ntmps6
  go_wp2_with fail
  try rw [hW0]
  clear hW0
  obtain ⟨bx, hbx⟩ : ∃ bx : Nat, w.heap.size = bx := ⟨_, rfl⟩
  rw [hbx] at q0 q1 q2 q3 q4 q5 BOX ⊢
  have BX := hide hbx
  clear hbx
  go_quiet (first | exact Calls.quiet_of_same (S1.out _) | exact Calls.quiet_of_same (S2.out _))
  revert nq
  intro m1
  go_wp2_with fail
  go_quiet (fail)
  revert nq
  intro m2
  go_wp2_with fail
  obtain ⟨elo, ehi⟩ := ELO.out
  go_quiet (fail)
  obtain ⟨W, hWW⟩ : ∃ W, ((W0.drewN m1).drewN m2).drewN nq = W := ⟨_, rfl⟩
  clear elo ehi
  have bW : Below w.heap.size w W := by rw [← hWW]; exact bt (bt (bt B0.out (drews _ _)) (drews _ _)) (drews _ _)
  have q0 : W.cell? ⟨bx, 0, none⟩ = some (.int .i64 6) := by rw [← hWW]; exact q0
  have q3 : W.cell? ⟨bx, 3, none⟩ = some (.int .i64 lo) := by rw [← hWW]; exact q3
  have q5 : W.cell? ⟨bx, 5, none⟩ = some (.int .i64 n) := by rw [← hWW]; exact q5
  have BOX := hide (show W.heap[bx]? = some (.cells #[.int .i64 6, .int .i64 who, .int .i64 tt, .int .i64 lo, .int .i64 hi, .int .i64 n, .slice aL nL cL] 39 (0, 0)) by rw [← hWW]; exact BOX.out)
  rw [hWW]
  have BW := hide bW
  have HW := hide (HW.out.keep bW)
  have SE := hide (HW.out.eq s hs)
  have LN := hide (HW.out.len s hs)
  obtain ⟨c, hc⟩ := HW.out.wc
  have ST := hide (hc.st s hs)
  have RT := hide (hc.rt s hs)
  have pa := hc.cellP hs2
  have pb := hc.cellA
  have fX := hc.free
  have WC := hide hc
  rw [← SE.out] at RT
  clear hc hWW bW q1 q2 q4
  obtain ⟨kk, hkk, hL⟩ := least_any W n HO.out.n
  have LE := hide hL
  have HN := hide (show ∀ r ∈ D.S s, r.1 ≤ r.2 ∧ Nm r.1 ∧ Nm r.2 from fun r hr => ⟨ST.out.can.1 r hr, ST.out.bnd r hr⟩)
  have C1 := hide fun (V : World) (hb : Below W.heap.size W V) => All_any V (D.P s) (D.pa s) (D.pc s) (D.S s) (ST.out.keep hb)
  have C3 := hide fun (V1 V : World) (E g : Nat) (hE : V1.cell? ⟨E, 0, none⟩ = some (.slice (some ⟨g, 0, none⟩) (D.S s).length (D.S s).length)) (hV : Vs V1 (some ⟨g, 0, none⟩) (D.S s)) (hg : g < V1.heap.size) (hb0 : Below W.heap.size W V1) (hb : Below V1.heap.size V1 V) =>
    goes_any V V1 #[.pointer (some ⟨E, 0, none⟩)] (D.S s) _ (all_seq V1 E (some ⟨g, 0, none⟩) (D.S s).length (D.S s) hE hV ST.out.len HN.out) (But.ofBelow hb)
      (fun q hq => by
        have h2 : q < V1.heap.size := by
          rcases hq with rfl | ⟨x, hx, rfl⟩
          · exact block_lt_of_cell hE
          · cases hx; exact hg
        exact ⟨Nat.lt_of_lt_of_le h2 hb.size, h2⟩) (D.R s) (D.ra s) (D.rc s) (RT.out.keep (bt hb0 hb)) kk (by omega) (nums_nm HN.out)
  have BB := hide (But.ofBelow (S := fun k => ¬ Z k) BW.out)
  clear hL pa pb fX p1 p2 q3
  go_wp2_with fail
  have S1 : W.drew.cell? ⟨bx, 5, none⟩ = some (.int .i64 n) := q5
  have T1 := hide (show Below W.heap.size W W.drew from drews W 1)
  clear q5 q0
  go_region_held3 (fun w' => w'.cell? ⟨bx, 5, none⟩ = some (.int .i64 n))
    (with_reducible exact S1)
    (first
      | (go_at_call 24; refine (C1.out _ T1.out).mono ?_; rintro e w9 ⟨E, g, rfl, h1, h2, h3, h4, h5, h6⟩; have S1 := (h6.cell (p := ⟨bx, 5, none⟩) (block_lt_of_cell S1)).trans S1; have T2 := hide (bt T1.out h6); have C4 := hide fun V => C3.out w9 V E g h3 h4 h5 T2.out; have T1 := hide T2.out; have T3 := hide (Below.refl w9.heap.size w9); clear h1 h2 h3 h4 h5 h6)
      | (go_at_call 25; refine (LE.out _).mono ?_; rintro e w9 ⟨rfl, rfl⟩)
      | (go_at_call 23; refine (C4.out _ T3.out).mono ?_; rintro e w9 ⟨rfl, h6⟩; have S1 := (h6.cell (p := ⟨bx, 5, none⟩) (block_lt_of_cell S1)).trans S1; have T1 := hide (bt T1.out h6); clear h6))
  all_goals
    go_wp2
    go_ret
    obtain ⟨D', f1, f2⟩ := HW.out.same T1.out
    exact ⟨by simp, D', f1, BB.out.trans f2 (fun _ _ h => h)⟩
end Go.Proofs.Ytkdgpkaebbiapaa

namespace Go.Proofs.Ytkdgpkaebbiapaa
set_option linter.unusedVariables false
open Go.RowKit
attribute [local go_sem] run_store_fn

/-! ### do: a call of kind 8 -/
set_option maxHeartbeats 4000000 in
set_option maxRecDepth 20000 in
theorem do8_any (Z : Nat → Prop) (w : World) (X m : Nat) (D : Dat) (o : Opv) (hk : o.k = 8) (hW : Wk Z w X m D) (ho : o.ok w Z) (hm : m ≤ 1954687338620) :
    Calls Try.prog 6 #[pt X, .agg o.cs.toArray] w (Did Z w X m) := by
  obtain ⟨k, who, tt, lo, hi, n, aL, L, cL⟩ := o
  obtain ⟨s, hs, hS1⟩ := slot_any w who ho.who
  obtain ⟨s2, hs2, hS2⟩ := slot_any w tt ho.tt
  have S1 := hide hS1
  have S2 := hide hS2
  have HO := hide ho
  clear hS1 hS2
  obtain rfl : k = 8 := hk
  unfold Opv.cs pt
  simp only
  have nmlo := nm_wrap lo
  have nmhi := nm_wrap hi
  obtain ⟨lo', hlo⟩ : ∃ x, IntKind.i64.wrap lo = x := ⟨_, rfl⟩
  obtain ⟨hi', hhi⟩ : ∃ x, IntKind.i64.wrap hi = x := ⟨_, rfl⟩
  rw [hlo] at nmlo
  rw [hhi] at nmhi
  have ELO := hide (show lo = lo' ∧ hi = hi' from ⟨by rw [← hlo]; exact (wrapI HO.out.lo.1 HO.out.lo.2).symm, by rw [← hhi]; exact (wrapI HO.out.hi.1 HO.out.hi.2).symm⟩)
  have cvlo : IntKind.i64.wrap lo' = lo' := wrapI nmlo.n64.1 nmlo.n64.2
  have cvhi : IntKind.i64.wrap hi' = hi' := wrapI nmhi.n64.1 nmhi.n64.2
  have NLO := hide nmlo
  have NHI := hide nmhi
  obtain ⟨nL, hnL⟩ : ∃ nL : Nat, nL = L.length := ⟨_, rfl⟩
  rw [← hnL]
  have NLL := hide hnL
  clear nmlo nmhi hnL ho
  obtain ⟨W0, hW0⟩ : ∃ W0, w.alloc (.cells #[.int .i64 8, .int .i64 who, .int .i64 tt, .int .i64 lo, .int .i64 hi, .int .i64 n, .slice aL nL cL] 39) = W0 := ⟨_, rfl⟩
  have b0 : Below w.heap.size w W0 := by rw [← hW0]; exact al _ _
  have box : W0.heap[w.heap.size]? = some (.cells #[.int .i64 8, .int .i64 who, .int .i64 tt, .int .i64 lo, .int .i64 hi, .int .i64 n, .slice aL nL cL] 39 (0, 0)) := by rw [← hW0]; exact World.alloc_heap_new w _
  have q0 : W0.cell? ⟨w.heap.size, 0, none⟩ = some (.int .i64 8) := by rw [cell_of_row _ _ _ _ _ _ box]; rfl
  have q1 : W0.cell? ⟨w.heap.size, 1, none⟩ = some (.int .i64 who) := by rw [cell_of_row _ _ _ _ _ _ box]; rfl
  have q2 : W0.cell? ⟨w.heap.size, 2, none⟩ = some (.int .i64 tt) := by rw [cell_of_row _ _ _ _ _ _ box]; rfl
  have q3 : W0.cell? ⟨w.heap.size, 3, none⟩ = some (.int .i64 lo) := by rw [cell_of_row _ _ _ _ _ _ box]; rfl
  have q4 : W0.cell? ⟨w.heap.size, 4, none⟩ = some (.int .i64 hi) := by rw [cell_of_row _ _ _ _ _ _ box]; rfl
  have q5 : W0.cell? ⟨w.heap.size, 5, none⟩ = some (.int .i64 n) := by rw [cell_of_row _ _ _ _ _ _ box]; rfl
  have BOX := hide box
  have B0 := hide b0
  have HW := hide hW
  obtain ⟨c, hc⟩ := (hW.keep b0).wc
  obtain ⟨p1, p2⟩ := hc.cellP hs
  unfold pt at p1 p2
  clear hc hW box b0
  go_enter Try.func6, Try.ntmps6
  go_wp2_with fail
  try rw [hW0]
  clear hW0
  obtain ⟨bx, hbx⟩ : ∃ bx : Nat, w.heap.size = bx := ⟨_, rfl⟩
  rw [hbx] at q0 q1 q2 q3 q4 q5 BOX ⊢
  have BX := hide hbx
  clear hbx
  go_quiet (first | exact Calls.quiet_of_same (S1.out _) | exact Calls.quiet_of_same (S2.out _))
  revert nq
  intro m1
  go_wp2_with fail
  go_quiet (fail)
  revert nq
  intro m2
  go_wp2_with fail
  obtain ⟨elo, ehi⟩ := ELO.out
  go_quiet (fail)
  obtain ⟨W, hWW⟩ : ∃ W, ((W0.drewN m1).drewN m2).drewN nq = W := ⟨_, rfl⟩
  clear elo ehi
  have bW : Below w.heap.size w W := by rw [← hWW]; exact bt (bt (bt B0.out (drews _ _)) (drews _ _)) (drews _ _)
  have q0 : W.cell? ⟨bx, 0, none⟩ = some (.int .i64 8) := by rw [← hWW]; exact q0
  have q3 : W.cell? ⟨bx, 3, none⟩ = some (.int .i64 lo) := by rw [← hWW]; exact q3
  have q5 : W.cell? ⟨bx, 5, none⟩ = some (.int .i64 n) := by rw [← hWW]; exact q5
  have BOX := hide (show W.heap[bx]? = some (.cells #[.int .i64 8, .int .i64 who, .int .i64 tt, .int .i64 lo, .int .i64 hi, .int .i64 n, .slice aL nL cL] 39 (0, 0)) by rw [← hWW]; exact BOX.out)
  rw [hWW]
  have BW := hide bW
  have HW := hide (HW.out.keep bW)
  have SE := hide (HW.out.eq s hs)
  have LN := hide (HW.out.len s hs)
  obtain ⟨c, hc⟩ := HW.out.wc
  have ST := hide (hc.st s hs)
  have RT := hide (hc.rt s hs)
  have pa := hc.cellP hs2
  have pb := hc.cellA
  have fX := hc.free
  have WC := hide hc
  rw [← SE.out] at RT
  clear hc hWW bW q1 q2 q4
  have r0 := RT.out.cell
  have SE2 := hide (HW.out.eq s2 hs2)
  have ST2 := hide (WC.out.st s2 hs2)
  have RT2 := hide (WC.out.rt s2 hs2)
  rw [← SE2.out] at RT2
  obtain ⟨pa1, pa2⟩ := pa
  unfold pt at pa1 pa2
  have BB := hide (But.ofBelow (S := fun k => ¬ Z k) BW.out)
  clear pb fX p1 p2 q3
  have s2a : (0 : Int) ≤ (s2 : Int) := by omega
  have s2b : (s2 : Int) < 3 := by omega
  by_cases hn : n = 0
  · subst hn
    obtain ⟨ln, hln⟩ : ∃ ln : Nat, (D.S s).length = ln := ⟨_, rfl⟩
    have LNN := hide hln
    rw [hln] at r0
    have CS := hide fun (j : Nat) => SameNil_any (W.drewN j) (D.P s) (D.pa s) (D.pc s) (D.S s) (ST.out.keep (drews _ _))
    rw [hln] at CS
    clear hln
    by_cases l0 : ln = 0
    · subst l0
      have CS := hide fun (j : Nat) => show Calls Try.prog 26 #[.pointer (some ⟨D.P s, 0, none⟩), .pointer none] (W.drewN j) fun e w' => e = .returned (.bool true) ∧ w' = W.drewN j from CS.out j
      go_wp2_with fail
      go_quiet (exact Calls.quiet_of_same (CS.out _))
      go_wp2
      go_ret
      obtain ⟨D', f1, f2⟩ := HW.out.same (drews W nq)
      exact ⟨by simp, D', f1, BB.out.trans f2 (fun _ _ h => h)⟩
    · have e0 : decide (ln = 0) = false := decide_eq_false l0
      have e1 : ((ln : Int) == 0) = false := by simp [l0]
      have e2 : (ln == 0) = false := by simp [l0]
      rw [e0] at CS
      go_wp2_with fail
      go_quiet (exact Calls.quiet_of_same (CS.out _))
      go_wp2
      go_ret
      obtain ⟨D', f1, f2⟩ := HW.out.same (drews W nq)
      exact ⟨by simp, D', f1, BB.out.trans f2 (fun _ _ h => h)⟩
  · have e1 : (n == 0) = false := by simp [hn]
    have C1 := hide fun (V : World) (hb : Below W.heap.size W V) => Same_any V (D.P s) (D.P s2) (D.pa s) (D.pa s2) (D.pc s) (D.pc s2) (D.S s) (D.S s2) (ST.out.keep hb) (ST2.out.keep hb)
    have C2 := hide fun (V : World) (hb : Below W.heap.size W V) => rSame_any V (D.R s) (D.R s2) (D.ra s) (D.ra s2) (D.rc s) (D.rc s2) (D.S s) (D.S s2) (RT.out.keep hb) (RT2.out.keep hb)
    generalize decide (D.S s = D.S s2) = ans at *
    have z1 : (ans == ans) = true := by simp
    go_wp2_with fail
    have S1 : W.drew.cell? ⟨X, s2, none⟩ = some (.pointer (some ⟨D.P s2, 0, none⟩)) ∧ W.drew.cell? ⟨X, 3 + s2, none⟩ = some (.pointer (some ⟨D.R s2, 0, none⟩)) := ⟨pa1, pa2⟩
    have T1 := hide (show Below W.heap.size W W.drew from drews W 1)
    clear pa1 pa2 r0 q0 q5
    go_region_held3 (fun w' => w'.cell? ⟨X, s2, none⟩ = some (.pointer (some ⟨D.P s2, 0, none⟩)) ∧ w'.cell? ⟨X, 3 + s2, none⟩ = some (.pointer (some ⟨D.R s2, 0, none⟩)))
      (with_reducible exact S1)
      (first
        | (go_at_call 26; refine (C1.out _ T1.out).mono ?_; rintro e w9 ⟨rfl, h6⟩; have S1 := And.intro ((h6.cell (p := ⟨X, s2, none⟩) (block_lt_of_cell S1.1)).trans S1.1) ((h6.cell (p := ⟨X, 3 + s2, none⟩) (block_lt_of_cell S1.2)).trans S1.2); have T1 := hide (bt T1.out h6); clear h6)
        | (go_at_call 27; refine (C2.out _ T1.out).mono ?_; rintro e w9 ⟨rfl, h6⟩; have S1 := And.intro ((h6.cell (p := ⟨X, s2, none⟩) (block_lt_of_cell S1.1)).trans S1.1) ((h6.cell (p := ⟨X, 3 + s2, none⟩) (block_lt_of_cell S1.2)).trans S1.2); have T1 := hide (bt T1.out h6); clear h6))
    all_goals
      go_wp2
      go_ret
      obtain ⟨D', f1, f2⟩ := HW.out.same T1.out
      exact ⟨by simp, D', f1, BB.out.trans f2 (fun _ _ h => h)⟩
end Go.Proofs.Ytkdgpkaebbiapaa
