import Derived.Test.YtmfelkncomfipaaDYA
import Derived.Test.YtmfelkncomfipaaDZT
namespace Go.Proofs.Ytmfelkncomfipaa
set_option linter.unusedVariables false
set_option linter.unusedSimpArgs false
open Go.RowKit
theorem cells12b {W : World} {b : Nat} {t : TypeId} {v0 v1 v2 v3 v4 v5 v6 v7 v8 v9 va vb : Value} (h : W.heap[b]? = some (.cells #[v0, v1, v2, v3, v4, v5, v6, v7, v8, v9, va, vb] t (0, 0))) : W.cell? ⟨b, 0, none⟩ = some v0 ∧ W.cell? ⟨b, 1, none⟩ = some v1 ∧ W.cell? ⟨b, 2, none⟩ = some v2 ∧ W.cell? ⟨b, 3, none⟩ = some v3 ∧ W.cell? ⟨b, 4, none⟩ = some v4 ∧ W.cell? ⟨b, 5, none⟩ = some v5 ∧ W.cell? ⟨b, 6, none⟩ = some v6 ∧ W.cell? ⟨b, 7, none⟩ = some v7 ∧ W.cell? ⟨b, 8, none⟩ = some v8 ∧ W.cell? ⟨b, 9, none⟩ = some v9 ∧ W.cell? ⟨b, 10, none⟩ = some va ∧ W.cell? ⟨b, 11, none⟩ = some vb := by
  refine ⟨?_, ?_, ?_, ?_, ?_, ?_, ?_, ?_, ?_, ?_, ?_, ?_⟩ <;> (rw [cell_of_row _ _ _ _ _ _ h]; rfl)
set_option maxHeartbeats 4000000 in
set_option maxRecDepth 8000 in
theorem gives_any (w : World) (v : Tv) : Calls Try.prog 19 #[v.vl] w fun e w' => e = .returned (if v.t = true then v.l else v.r).vl ∧ Below w.heap.size w w' := by
  obtain ⟨l, r, aS, cS, s, t⟩ := v
  unfold Tv.vl Pv.vl
  simp only [Tv.cs]
  have U := hide (two_blocks w (.cells #[.int .i64 l.kind, .int .i64 l.level, .slice l.aI l.items.length l.cI, .slice l.aD l.data.length l.cD, .int .i64 l.next, .int .i64 r.kind, .int .i64 r.level, .slice r.aI r.items.length r.cI, .slice r.aD r.data.length r.cD, .int .i64 r.next, .slice aS s.length cS, .bool t] 27) (.cells #[.int .i64 0, .int .i64 0, .slice none 0 0, .slice none 0 0, .int .i64 0] 25) (Below.refl _ _))
  cases t with
  | true =>
    simp only [if_true, Pv.cs]
    go_enter Try.func19, Try.ntmps19
    go_upto_region 1 with fail
    have X1 := hide U.out.1
    have X2 := hide U.out.2.1
    have B2 := hide U.out.2.2.1
    clear U
    generalize ((w.alloc (.cells #[.int .i64 l.kind, .int .i64 l.level, .slice l.aI l.items.length l.cI, .slice l.aD l.data.length l.cD, .int .i64 l.next, .int .i64 r.kind, .int .i64 r.level, .slice r.aI r.items.length r.cI, .slice r.aD r.data.length r.cD, .int .i64 r.next, .slice aS s.length cS, .bool true] 27)).alloc (.cells #[.int .i64 0, .int .i64 0, .slice none 0 0, .slice none 0 0, .int .i64 0] 25)) = w2 at *
    obtain ⟨e0, e1, e2, e3, e4, e5, e6, e7, e8, e9, ea, eb⟩ := cells12b X1.out
    go_wp2_with (first | (refine wpList_store_row rfl 25 _ _ rfl (w.heap.size + 1) _ rfl rfl 25 _ X2.out sizePage rfl (by simp [Value.oneCell']) ?_) | fail)
    refine bodyPost_ret (v := .agg _) (results_cell_row Try.results19 _ _ (w.heap.size + 1) 25 _ (0, 0) _ rfl (setRow_heap _ _ _ _ _ _ X2.out) Try.underlying25 rfl sizePage) rfl ?_
    exact ⟨rfl, below_row _ B2.out (by omega)⟩
  | false =>
    simp only [Bool.false_eq_true, if_false, Pv.cs]
    go_enter Try.func19, Try.ntmps19
    go_upto_region 1 with fail
    have X1 := hide U.out.1
    have X2 := hide U.out.2.1
    have B2 := hide U.out.2.2.1
    clear U
    generalize ((w.alloc (.cells #[.int .i64 l.kind, .int .i64 l.level, .slice l.aI l.items.length l.cI, .slice l.aD l.data.length l.cD, .int .i64 l.next, .int .i64 r.kind, .int .i64 r.level, .slice r.aI r.items.length r.cI, .slice r.aD r.data.length r.cD, .int .i64 r.next, .slice aS s.length cS, .bool false] 27)).alloc (.cells #[.int .i64 0, .int .i64 0, .slice none 0 0, .slice none 0 0, .int .i64 0] 25)) = w2 at *
    obtain ⟨e0, e1, e2, e3, e4, e5, e6, e7, e8, e9, ea, eb⟩ := cells12b X1.out
    go_wp2_with (first | (refine wpList_store_row rfl 25 _ _ rfl (w.heap.size + 1) _ rfl rfl 25 _ X2.out sizePage rfl (by simp [Value.oneCell']) ?_) | fail)
    refine bodyPost_ret (v := .agg _) (results_cell_row Try.results19 _ _ (w.heap.size + 1) 25 _ (0, 0) _ rfl (setRow_heap _ _ _ _ _ _ X2.out) Try.underlying25 rfl sizePage) rfl ?_
    exact ⟨rfl, below_row _ B2.out (by omega)⟩
set_option maxHeartbeats 4000000 in
set_option maxRecDepth 8000 in
theorem takes_any (w : World) (v : Tv) : Calls Try.prog 20 #[v.vl] w fun e w' => e = .returned (if v.t = true then v.r else v.l).vl ∧ Below w.heap.size w w' := by
  obtain ⟨l, r, aS, cS, s, t⟩ := v
  unfold Tv.vl Pv.vl
  simp only [Tv.cs]
  have U := hide (two_blocks w (.cells #[.int .i64 l.kind, .int .i64 l.level, .slice l.aI l.items.length l.cI, .slice l.aD l.data.length l.cD, .int .i64 l.next, .int .i64 r.kind, .int .i64 r.level, .slice r.aI r.items.length r.cI, .slice r.aD r.data.length r.cD, .int .i64 r.next, .slice aS s.length cS, .bool t] 27) (.cells #[.int .i64 0, .int .i64 0, .slice none 0 0, .slice none 0 0, .int .i64 0] 25) (Below.refl _ _))
  cases t with
  | true =>
    simp only [if_true, Pv.cs]
    go_enter Try.func20, Try.ntmps20
    go_upto_region 1 with fail
    have X1 := hide U.out.1
    have X2 := hide U.out.2.1
    have B2 := hide U.out.2.2.1
    clear U
    generalize ((w.alloc (.cells #[.int .i64 l.kind, .int .i64 l.level, .slice l.aI l.items.length l.cI, .slice l.aD l.data.length l.cD, .int .i64 l.next, .int .i64 r.kind, .int .i64 r.level, .slice r.aI r.items.length r.cI, .slice r.aD r.data.length r.cD, .int .i64 r.next, .slice aS s.length cS, .bool true] 27)).alloc (.cells #[.int .i64 0, .int .i64 0, .slice none 0 0, .slice none 0 0, .int .i64 0] 25)) = w2 at *
    obtain ⟨e0, e1, e2, e3, e4, e5, e6, e7, e8, e9, ea, eb⟩ := cells12b X1.out
    go_wp2_with (first | (refine wpList_store_row rfl 25 _ _ rfl (w.heap.size + 1) _ rfl rfl 25 _ X2.out sizePage rfl (by simp [Value.oneCell']) ?_) | fail)
    refine bodyPost_ret (v := .agg _) (results_cell_row Try.results20 _ _ (w.heap.size + 1) 25 _ (0, 0) _ rfl (setRow_heap _ _ _ _ _ _ X2.out) Try.underlying25 rfl sizePage) rfl ?_
    exact ⟨rfl, below_row _ B2.out (by omega)⟩
  | false =>
    simp only [Bool.false_eq_true, if_false, Pv.cs]
    go_enter Try.func20, Try.ntmps20
    go_upto_region 1 with fail
    have X1 := hide U.out.1
    have X2 := hide U.out.2.1
    have B2 := hide U.out.2.2.1
    clear U
    generalize ((w.alloc (.cells #[.int .i64 l.kind, .int .i64 l.level, .slice l.aI l.items.length l.cI, .slice l.aD l.data.length l.cD, .int .i64 l.next, .int .i64 r.kind, .int .i64 r.level, .slice r.aI r.items.length r.cI, .slice r.aD r.data.length r.cD, .int .i64 r.next, .slice aS s.length cS, .bool false] 27)).alloc (.cells #[.int .i64 0, .int .i64 0, .slice none 0 0, .slice none 0 0, .int .i64 0] 25)) = w2 at *
    obtain ⟨e0, e1, e2, e3, e4, e5, e6, e7, e8, e9, ea, eb⟩ := cells12b X1.out
    go_wp2_with (first | (refine wpList_store_row rfl 25 _ _ rfl (w.heap.size + 1) _ rfl rfl 25 _ X2.out sizePage rfl (by simp [Value.oneCell']) ?_) | fail)
    refine bodyPost_ret (v := .agg _) (results_cell_row Try.results20 _ _ (w.heap.size + 1) 25 _ (0, 0) _ rfl (setRow_heap _ _ _ _ _ _ X2.out) Try.underlying25 rfl sizePage) rfl ?_
    exact ⟨rfl, below_row _ B2.out (by omega)⟩
end Go.Proofs.Ytmfelkncomfipaa
