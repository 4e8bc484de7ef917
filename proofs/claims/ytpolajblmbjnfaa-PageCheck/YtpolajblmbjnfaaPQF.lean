import Derived.Test.YtpolajblmbjnfaaPQD
import Derived.Test.YtpolajblmbjnfaaPJX
import Derived.Test.YtpolajblmbjnfaaPQE
import Derived.Deep.RegionHeld3
namespace Go.Proofs.Ytpolajblmbjnfaa
open Go.RowKit

set_option maxRecDepth 16000 in
set_option maxHeartbeats 3200000 in
theorem pageCheck_any (w : World) (p : Pv) (hP : Pi w p) : Calls Try.prog 3 #[.agg p.cs] w fun e w' => e = .returned (.bool true) ∧ Below w.heap.size w w' := by
  have C1 := hide fun (W : World) (hb : Below w.heap.size w W) => Check_any W p (hP.keep hb)
  have C2 := hide fun (W : World) (hb : Below w.heap.size w W) => iCheck_any W p (hP.keep hb)
  have QC := hide (Bx.new w 25 p.cs)
  have Q0 := hide (Bx.page QC.out)
  have QK := hide fun (W W' : World) (hb : Below W.heap.size W W') (h : Bx W 25 w.heap.size p.cs) => h.keep hb
  clear hP
  generalize p.pg.check = c at *
  have hcc : ((c : Int) == (c : Int)) = true := by simp
  obtain ⟨kind, level, aI, cI, items, aD, cD, data, next⟩ := p
  unfold Pv.vl at C1 C2
  simp only [Pv.cs] at *
  have K := hide (show ∀ W W' : World, Below W.heap.size W W' → (((W.cell? ⟨w.heap.size, 0, none⟩ = some (.int .i64 kind) ∧ W.cell? ⟨w.heap.size, 1, none⟩ = some (.int .i64 level) ∧ W.cell? ⟨w.heap.size, 2, none⟩ = some (.slice aI items.length cI) ∧ W.cell? ⟨w.heap.size, 3, none⟩ = some (.slice aD data.length cD) ∧ W.cell? ⟨w.heap.size, 4, none⟩ = some (.int .i64 next)) ∧ Below w.heap.size w W)) → ((W'.cell? ⟨w.heap.size, 0, none⟩ = some (.int .i64 kind) ∧ W'.cell? ⟨w.heap.size, 1, none⟩ = some (.int .i64 level) ∧ W'.cell? ⟨w.heap.size, 2, none⟩ = some (.slice aI items.length cI) ∧ W'.cell? ⟨w.heap.size, 3, none⟩ = some (.slice aD data.length cD) ∧ W'.cell? ⟨w.heap.size, 4, none⟩ = some (.int .i64 next)) ∧ Below w.heap.size w W') from fun W W' hb h =>
    ⟨⟨(hb.cell (block_lt_of_cell h.1.1)).trans h.1.1, (hb.cell (block_lt_of_cell h.1.2.1)).trans h.1.2.1, (hb.cell (block_lt_of_cell h.1.2.2.1)).trans h.1.2.2.1, (hb.cell (block_lt_of_cell h.1.2.2.2.1)).trans h.1.2.2.2.1, (hb.cell (block_lt_of_cell h.1.2.2.2.2)).trans h.1.2.2.2.2⟩, bt h.2 hb⟩)
  have S0 := hide (And.intro Q0.out (al w (.cells #[.int .i64 kind, .int .i64 level, .slice aI items.length cI, .slice aD data.length cD, .int .i64 next] 25)))
  have S0 := hide (K.out _ _ (dr2 _) S0.out)
  clear QC Q0 QK
  have D1 := hide fun (w' : World) (h : (w'.cell? ⟨w.heap.size, 0, none⟩ = some (.int .i64 kind) ∧ w'.cell? ⟨w.heap.size, 1, none⟩ = some (.int .i64 level) ∧ w'.cell? ⟨w.heap.size, 2, none⟩ = some (.slice aI items.length cI) ∧ w'.cell? ⟨w.heap.size, 3, none⟩ = some (.slice aD data.length cD) ∧ w'.cell? ⟨w.heap.size, 4, none⟩ = some (.int .i64 next)) ∧ Below w.heap.size w w') => C1.out w' h.2
  have D2 := hide fun (w' : World) (h : (w'.cell? ⟨w.heap.size, 0, none⟩ = some (.int .i64 kind) ∧ w'.cell? ⟨w.heap.size, 1, none⟩ = some (.int .i64 level) ∧ w'.cell? ⟨w.heap.size, 2, none⟩ = some (.slice aI items.length cI) ∧ w'.cell? ⟨w.heap.size, 3, none⟩ = some (.slice aD data.length cD) ∧ w'.cell? ⟨w.heap.size, 4, none⟩ = some (.int .i64 next)) ∧ Below w.heap.size w w') => C2.out w' h.2
  clear C1 C2
  go_enter Try.func3, Try.ntmps3
  go_wp2
  go_region_held3 (fun w' => (w'.cell? ⟨w.heap.size, 0, none⟩ = some (.int .i64 kind) ∧ w'.cell? ⟨w.heap.size, 1, none⟩ = some (.int .i64 level) ∧ w'.cell? ⟨w.heap.size, 2, none⟩ = some (.slice aI items.length cI) ∧ w'.cell? ⟨w.heap.size, 3, none⟩ = some (.slice aD data.length cD) ∧ w'.cell? ⟨w.heap.size, 4, none⟩ = some (.int .i64 next)) ∧ Below w.heap.size w w')
    (first | exact S0.out | (refine K.out _ _ hb3 ?_; assumption) | (refine K.out _ _ hb2 ?_; assumption) | (refine K.out _ _ hb1 ?_; assumption))
    (first | (go_at_call 9; refine (fixed_any _).mono ?_; rintro e w1 ⟨rfl, hb1⟩) | (go_at_call 10; refine (D1.out _ (by assumption)).mono ?_; rintro e w2 ⟨rfl, hb2⟩) | (go_at_call 11; refine (D2.out _ (by assumption)).mono ?_; rintro e w3 ⟨rfl, hb3⟩))
  all_goals go_wp2
  all_goals go_ret
  all_goals first | exact ⟨rfl, bt (bt (bt S0.out.2 hb1) hb2) hb3⟩ | exact ⟨rfl, bt (bt (bt S0.out.2 hb1) hb3) hb2⟩ | exact ⟨by simp, bt (bt (bt S0.out.2 hb1) hb2) hb3⟩ | exact ⟨by simp, bt (bt (bt S0.out.2 hb1) hb3) hb2⟩
end Go.Proofs.Ytpolajblmbjnfaa
