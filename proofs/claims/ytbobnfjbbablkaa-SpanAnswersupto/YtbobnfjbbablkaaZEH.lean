import Derived.Test.YtbobnfjbbablkaaZEG
namespace Go.Proofs.Ytbobnfjbbablkaa
open Go.RowKit

set_option maxRecDepth 100000 in
set_option maxHeartbeats 3200000 in
theorem gtold_0 (w : World) (aA : Option Addr) (cA : Nat) (A : List Nat) (aB : Option Addr) (cB : Nat) (B : List Nat) (aL : Option Addr) (cL : Nat) (lo : List Nat) (aH : Option Addr) (cH : Nat) (hi : List Nat) (op : Bool) (bL : Option Addr) (dL : Nat) (ko : List Nat) (bH : Option Addr) (dH : Nat) (ki : List Nat) (oq : Bool) (aM : Option Addr) (cM : Nat) (M : List Rv) (h : Oi w ⟨0, aA, cA, A, aB, cB, B, ⟨aL, cL, lo, aH, cH, hi, op⟩, ⟨bL, dL, ko, bH, dH, ki, oq⟩, aM, cM, M⟩) (_ : Ob ⟨0, aA, cA, A, aB, cB, B, ⟨aL, cL, lo, aH, cH, hi, op⟩, ⟨bL, dL, ko, bH, dH, ki, oq⟩, aM, cM, M⟩) :
    Calls Try.prog 11 #[.agg #[.int .i64 0, .slice aA A.length cA, .slice aB B.length cB, .slice aL lo.length cL, .slice aH hi.length cH, .bool op, .slice bL ko.length dL, .slice bH ki.length dH, .bool oq, .slice aM M.length cM]] w fun e w' => ∃ a : Av, e = .returned (.agg a.cs) ∧ Aw w w' a ∧ a.an = Ov.ans ⟨0, aA, cA, A, aB, cB, B, ⟨aL, cL, lo, aH, cH, hi, op⟩, ⟨bL, dL, ko, bH, dH, ki, oq⟩, aM, cM, M⟩ := by
  have C := hide fun w1 (hb : Below w.heap.size w w1) => Compare_any w1 aA aB A.length B.length cA cB A B (h.a.keep hb) (h.b.keep hb) rfl rfl
  have HA : Hid (Ov.ans ⟨0, aA, cA, A, aB, cB, B, ⟨aL, cL, lo, aH, cH, hi, op⟩, ⟨bL, dL, ko, bH, dH, ki, oq⟩, aM, cM, M⟩ = ⟨cmpB A B, false, [], []⟩) := rfl
  clear h
  generalize Ov.ans ⟨0, aA, cA, A, aB, cB, B, ⟨aL, cL, lo, aH, cH, hi, op⟩, ⟨bL, dL, ko, bH, dH, ki, oq⟩, aM, cM, M⟩ = an at *
  generalize cmpB A B = z at *
  go_enter Try.func11, Try.ntmps11
  go_wp2_with fail
  refine (C.out _ (bt (al _ _) (al _ _))).mono ?_
  rintro e w1 ⟨rfl, hb⟩
  have HB := hide hb
  clear hb
  have M1 := hide (m1_of HB.out)
  go_wp2_with (refine wpList_store_row rfl 32 _ _ rfl (w.heap.size + 1) _ rfl rfl 32 _ (M1.out) sizeAns rfl (by simp [Value.oneCell']) ?_)
  refine bodyPost_ret (v := .agg _) (results_cell_row Try.results11 _ _ (w.heap.size + 1) 32 _ (0, 0) _ rfl (setRow_heap _ _ _ _ _ _ (M1.out)) Try.underlying32 rfl sizeAns) rfl ?_
  refine ⟨⟨z, false, none, 0, [], none, 0, []⟩, rfl, Aw.fin (g := w.heap.size + 1) (W0 := (w.alloc (.cells #[.int .i64 0, .slice aA A.length cA, .slice aB B.length cB, .slice aL lo.length cL, .slice aH hi.length cH, .bool op, .slice bL ko.length dL, .slice bH ki.length dH, .bool oq, .slice aM M.length cM] 29)).alloc (.cells #[.int .i64 0, .bool false, .slice none 0 0, .slice none 0 0] 32)) (Aw.key (Bs.nil _) (New.none _ _) HB.out z false) (bt (al _ _) (al _ _)) (by omega) (by rw [size_alloc, size_alloc]; omega) _, ?_⟩
  exact HA.out.symm
set_option maxRecDepth 100000 in
set_option maxHeartbeats 3200000 in
theorem gtold_1 (w : World) (aA : Option Addr) (cA : Nat) (A : List Nat) (aB : Option Addr) (cB : Nat) (B : List Nat) (aL : Option Addr) (cL : Nat) (lo : List Nat) (aH : Option Addr) (cH : Nat) (hi : List Nat) (op : Bool) (bL : Option Addr) (dL : Nat) (ko : List Nat) (bH : Option Addr) (dH : Nat) (ki : List Nat) (oq : Bool) (aM : Option Addr) (cM : Nat) (M : List Rv) (h : Oi w ⟨1, aA, cA, A, aB, cB, B, ⟨aL, cL, lo, aH, cH, hi, op⟩, ⟨bL, dL, ko, bH, dH, ki, oq⟩, aM, cM, M⟩) (_ : Ob ⟨1, aA, cA, A, aB, cB, B, ⟨aL, cL, lo, aH, cH, hi, op⟩, ⟨bL, dL, ko, bH, dH, ki, oq⟩, aM, cM, M⟩) :
    Calls Try.prog 11 #[.agg #[.int .i64 1, .slice aA A.length cA, .slice aB B.length cB, .slice aL lo.length cL, .slice aH hi.length cH, .bool op, .slice bL ko.length dL, .slice bH ki.length dH, .bool oq, .slice aM M.length cM]] w fun e w' => ∃ a : Av, e = .returned (.agg a.cs) ∧ Aw w w' a ∧ a.an = Ov.ans ⟨1, aA, cA, A, aB, cB, B, ⟨aL, cL, lo, aH, cH, hi, op⟩, ⟨bL, dL, ko, bH, dH, ki, oq⟩, aM, cM, M⟩ := by
  have C := hide fun w1 (hb : Below w.heap.size w w1) => eNext_own w1 aA A.length cA A (h.a.keep hb) rfl h.ca
  have HA : Hid (Ov.ans ⟨1, aA, cA, A, aB, cB, B, ⟨aL, cL, lo, aH, cH, hi, op⟩, ⟨bL, dL, ko, bH, dH, ki, oq⟩, aM, cM, M⟩ = ⟨0, false, next A, []⟩) := rfl
  clear h
  generalize Ov.ans ⟨1, aA, cA, A, aB, cB, B, ⟨aL, cL, lo, aH, cH, hi, op⟩, ⟨bL, dL, ko, bH, dH, ki, oq⟩, aM, cM, M⟩ = an at *
  generalize next A = l1 at *
  go_enter Try.func11, Try.ntmps11
  go_wp2_with fail
  refine (C.out _ (bt (al _ _) (al _ _))).mono ?_
  rintro e w1 ⟨a1, c1, rfl, h1, _, h2, h3⟩
  have O1 := hide (And.intro h1 (And.intro h2 h3))
  have M1 := hide (m1_of h2)
  clear h1 h2 h3
  go_wp2_with (refine wpList_store_row rfl 32 _ _ rfl (w.heap.size + 1) _ rfl rfl 32 _ (M1.out) sizeAns rfl (by simp [Value.oneCell']) ?_)
  refine bodyPost_ret (v := .agg _) (results_cell_row Try.results11 _ _ (w.heap.size + 1) 32 _ (0, 0) _ rfl (setRow_heap _ _ _ _ _ _ (M1.out)) Try.underlying32 rfl sizeAns) rfl ?_
  refine ⟨⟨0, false, a1, c1, l1, none, 0, []⟩, rfl, Aw.fin (g := w.heap.size + 1) (W0 := (w.alloc (.cells #[.int .i64 1, .slice aA A.length cA, .slice aB B.length cB, .slice aL lo.length cL, .slice aH hi.length cH, .bool op, .slice bL ko.length dL, .slice bH ki.length dH, .bool oq, .slice aM M.length cM] 29)).alloc (.cells #[.int .i64 0, .bool false, .slice none 0 0, .slice none 0 0] 32)) (Aw.key O1.out.1 O1.out.2.2 O1.out.2.1 0 false) (bt (al _ _) (al _ _)) (by omega) (by rw [size_alloc, size_alloc]; omega) _, ?_⟩
  exact HA.out.symm
set_option maxRecDepth 100000 in
set_option maxHeartbeats 3200000 in
theorem gtold_2 (w : World) (aA : Option Addr) (cA : Nat) (A : List Nat) (aB : Option Addr) (cB : Nat) (B : List Nat) (aL : Option Addr) (cL : Nat) (lo : List Nat) (aH : Option Addr) (cH : Nat) (hi : List Nat) (op : Bool) (bL : Option Addr) (dL : Nat) (ko : List Nat) (bH : Option Addr) (dH : Nat) (ki : List Nat) (oq : Bool) (aM : Option Addr) (cM : Nat) (M : List Rv) (h : Oi w ⟨2, aA, cA, A, aB, cB, B, ⟨aL, cL, lo, aH, cH, hi, op⟩, ⟨bL, dL, ko, bH, dH, ki, oq⟩, aM, cM, M⟩) (_ : Ob ⟨2, aA, cA, A, aB, cB, B, ⟨aL, cL, lo, aH, cH, hi, op⟩, ⟨bL, dL, ko, bH, dH, ki, oq⟩, aM, cM, M⟩) :
    Calls Try.prog 11 #[.agg #[.int .i64 2, .slice aA A.length cA, .slice aB B.length cB, .slice aL lo.length cL, .slice aH hi.length cH, .bool op, .slice bL ko.length dL, .slice bH ki.length dH, .bool oq, .slice aM M.length cM]] w fun e w' => ∃ a : Av, e = .returned (.agg a.cs) ∧ Aw w w' a ∧ a.an = Ov.ans ⟨2, aA, cA, A, aB, cB, B, ⟨aL, cL, lo, aH, cH, hi, op⟩, ⟨bL, dL, ko, bH, dH, ki, oq⟩, aM, cM, M⟩ := by
  have C := hide fun w1 (hb : Below w.heap.size w w1) => eCommon_any w1 aA aB A.length cA B.length cB A B (h.a.keep hb) (h.b.keep hb) rfl rfl
  have HA : Hid (Ov.ans ⟨2, aA, cA, A, aB, cB, B, ⟨aL, cL, lo, aH, cH, hi, op⟩, ⟨bL, dL, ko, bH, dH, ki, oq⟩, aM, cM, M⟩ = ⟨(common A B : Nat), false, [], []⟩) := rfl
  clear h
  generalize Ov.ans ⟨2, aA, cA, A, aB, cB, B, ⟨aL, cL, lo, aH, cH, hi, op⟩, ⟨bL, dL, ko, bH, dH, ki, oq⟩, aM, cM, M⟩ = an at *
  generalize ((common A B : Nat) : Int) = z at *
  go_enter Try.func11, Try.ntmps11
  go_wp2_with fail
  refine (C.out _ (bt (al _ _) (al _ _))).mono ?_
  rintro e w1 ⟨rfl, hb⟩
  have HB := hide hb
  clear hb
  have M1 := hide (m1_of HB.out)
  go_wp2_with (refine wpList_store_row rfl 32 _ _ rfl (w.heap.size + 1) _ rfl rfl 32 _ (M1.out) sizeAns rfl (by simp [Value.oneCell']) ?_)
  refine bodyPost_ret (v := .agg _) (results_cell_row Try.results11 _ _ (w.heap.size + 1) 32 _ (0, 0) _ rfl (setRow_heap _ _ _ _ _ _ (M1.out)) Try.underlying32 rfl sizeAns) rfl ?_
  refine ⟨⟨z, false, none, 0, [], none, 0, []⟩, rfl, Aw.fin (g := w.heap.size + 1) (W0 := (w.alloc (.cells #[.int .i64 2, .slice aA A.length cA, .slice aB B.length cB, .slice aL lo.length cL, .slice aH hi.length cH, .bool op, .slice bL ko.length dL, .slice bH ki.length dH, .bool oq, .slice aM M.length cM] 29)).alloc (.cells #[.int .i64 0, .bool false, .slice none 0 0, .slice none 0 0] 32)) (Aw.key (Bs.nil _) (New.none _ _) HB.out z false) (bt (al _ _) (al _ _)) (by omega) (by rw [size_alloc, size_alloc]; omega) _, ?_⟩
  exact HA.out.symm
set_option maxRecDepth 100000 in
set_option maxHeartbeats 3200000 in
theorem gtold_3 (w : World) (aA : Option Addr) (cA : Nat) (A : List Nat) (aB : Option Addr) (cB : Nat) (B : List Nat) (aL : Option Addr) (cL : Nat) (lo : List Nat) (aH : Option Addr) (cH : Nat) (hi : List Nat) (op : Bool) (bL : Option Addr) (dL : Nat) (ko : List Nat) (bH : Option Addr) (dH : Nat) (ki : List Nat) (oq : Bool) (aM : Option Addr) (cM : Nat) (M : List Rv) (h : Oi w ⟨3, aA, cA, A, aB, cB, B, ⟨aL, cL, lo, aH, cH, hi, op⟩, ⟨bL, dL, ko, bH, dH, ki, oq⟩, aM, cM, M⟩) (_ : Ob ⟨3, aA, cA, A, aB, cB, B, ⟨aL, cL, lo, aH, cH, hi, op⟩, ⟨bL, dL, ko, bH, dH, ki, oq⟩, aM, cM, M⟩) :
    Calls Try.prog 11 #[.agg #[.int .i64 3, .slice aA A.length cA, .slice aB B.length cB, .slice aL lo.length cL, .slice aH hi.length cH, .bool op, .slice bL ko.length dL, .slice bH ki.length dH, .bool oq, .slice aM M.length cM]] w fun e w' => ∃ a : Av, e = .returned (.agg a.cs) ∧ Aw w w' a ∧ a.an = Ov.ans ⟨3, aA, cA, A, aB, cB, B, ⟨aL, cL, lo, aH, cH, hi, op⟩, ⟨bL, dL, ko, bH, dH, ki, oq⟩, aM, cM, M⟩ := by
  have C := hide fun w1 (hb : Below w.heap.size w w1) => eBetween_own w1 aA aB A.length cA B.length cB A B (h.a.keep hb) (h.b.keep hb) rfl rfl
  have HA : Hid (Ov.ans ⟨3, aA, cA, A, aB, cB, B, ⟨aL, cL, lo, aH, cH, hi, op⟩, ⟨bL, dL, ko, bH, dH, ki, oq⟩, aM, cM, M⟩ = ⟨0, (between A B).2, (between A B).1, []⟩) := rfl
  clear h
  generalize Ov.ans ⟨3, aA, cA, A, aB, cB, B, ⟨aL, cL, lo, aH, cH, hi, op⟩, ⟨bL, dL, ko, bH, dH, ki, oq⟩, aM, cM, M⟩ = an at *
  generalize (between A B).1 = l1 at *
  generalize (between A B).2 = bt2 at *
  go_enter Try.func11, Try.ntmps11
  go_wp2_with fail
  refine (C.out _ (bt (al _ _) (al _ _))).mono ?_
  rintro e w1 ⟨a1, c1, rfl, h1, h2, h3⟩
  have O1 := hide (And.intro h1 (And.intro h2 h3))
  have M1 := hide (m1_of h2)
  clear h1 h2 h3
  go_wp2_with (refine wpList_store_row rfl 32 _ _ rfl (w.heap.size + 1) _ rfl rfl 32 _ (M1.out) sizeAns rfl (by simp [Value.oneCell']) ?_)
  refine bodyPost_ret (v := .agg _) (results_cell_row Try.results11 _ _ (w.heap.size + 1) 32 _ (0, 0) _ rfl (setRow_heap _ _ _ _ _ _ (M1.out)) Try.underlying32 rfl sizeAns) rfl ?_
  refine ⟨⟨0, bt2, a1, c1, l1, none, 0, []⟩, rfl, Aw.fin (g := w.heap.size + 1) (W0 := (w.alloc (.cells #[.int .i64 3, .slice aA A.length cA, .slice aB B.length cB, .slice aL lo.length cL, .slice aH hi.length cH, .bool op, .slice bL ko.length dL, .slice bH ki.length dH, .bool oq, .slice aM M.length cM] 29)).alloc (.cells #[.int .i64 0, .bool false, .slice none 0 0, .slice none 0 0] 32)) (Aw.key O1.out.1 O1.out.2.2 O1.out.2.1 0 bt2) (bt (al _ _) (al _ _)) (by omega) (by rw [size_alloc, size_alloc]; omega) _, ?_⟩
  exact HA.out.symm
set_option maxRecDepth 100000 in
set_option maxHeartbeats 3200000 in
theorem gtold_4 (w : World) (aA : Option Addr) (cA : Nat) (A : List Nat) (aB : Option Addr) (cB : Nat) (B : List Nat) (aL : Option Addr) (cL : Nat) (lo : List Nat) (aH : Option Addr) (cH : Nat) (hi : List Nat) (op : Bool) (bL : Option Addr) (dL : Nat) (ko : List Nat) (bH : Option Addr) (dH : Nat) (ki : List Nat) (oq : Bool) (aM : Option Addr) (cM : Nat) (M : List Rv) (h : Oi w ⟨4, aA, cA, A, aB, cB, B, ⟨aL, cL, lo, aH, cH, hi, op⟩, ⟨bL, dL, ko, bH, dH, ki, oq⟩, aM, cM, M⟩) (_ : Ob ⟨4, aA, cA, A, aB, cB, B, ⟨aL, cL, lo, aH, cH, hi, op⟩, ⟨bL, dL, ko, bH, dH, ki, oq⟩, aM, cM, M⟩) :
    Calls Try.prog 11 #[.agg #[.int .i64 4, .slice aA A.length cA, .slice aB B.length cB, .slice aL lo.length cL, .slice aH hi.length cH, .bool op, .slice bL ko.length dL, .slice bH ki.length dH, .bool oq, .slice aM M.length cM]] w fun e w' => ∃ a : Av, e = .returned (.agg a.cs) ∧ Aw w w' a ∧ a.an = Ov.ans ⟨4, aA, cA, A, aB, cB, B, ⟨aL, cL, lo, aH, cH, hi, op⟩, ⟨bL, dL, ko, bH, dH, ki, oq⟩, aM, cM, M⟩ := by
  have C := hide fun w1 (hb : Below w.heap.size w w1) => eHas_any w1 ⟨aL, cL, lo, aH, cH, hi, op⟩ aA A.length cA A (h.r.keep hb) (h.a.keep hb) rfl
  have HA : Hid (Ov.ans ⟨4, aA, cA, A, aB, cB, B, ⟨aL, cL, lo, aH, cH, hi, op⟩, ⟨bL, dL, ko, bH, dH, ki, oq⟩, aM, cM, M⟩ = ⟨0, has (Rv.rg ⟨aL, cL, lo, aH, cH, hi, op⟩) A, [], []⟩) := rfl
  clear h
  generalize Ov.ans ⟨4, aA, cA, A, aB, cB, B, ⟨aL, cL, lo, aH, cH, hi, op⟩, ⟨bL, dL, ko, bH, dH, ki, oq⟩, aM, cM, M⟩ = an at *
  generalize has (Rv.rg ⟨aL, cL, lo, aH, cH, hi, op⟩) A = y at *
  unfold Rv.val at *
  dsimp only [Rv.cs] at C
  go_enter Try.func11, Try.ntmps11
  go_wp2_with fail
  refine (C.out _ (bt (al _ _) (al _ _))).mono ?_
  rintro e w1 ⟨rfl, hb⟩
  have HB := hide hb
  clear hb
  have M1 := hide (m1_of HB.out)
  go_wp2_with (refine wpList_store_row rfl 32 _ _ rfl (w.heap.size + 1) _ rfl rfl 32 _ (M1.out) sizeAns rfl (by simp [Value.oneCell']) ?_)
  refine bodyPost_ret (v := .agg _) (results_cell_row Try.results11 _ _ (w.heap.size + 1) 32 _ (0, 0) _ rfl (setRow_heap _ _ _ _ _ _ (M1.out)) Try.underlying32 rfl sizeAns) rfl ?_
  refine ⟨⟨0, y, none, 0, [], none, 0, []⟩, rfl, Aw.fin (g := w.heap.size + 1) (W0 := (w.alloc (.cells #[.int .i64 4, .slice aA A.length cA, .slice aB B.length cB, .slice aL lo.length cL, .slice aH hi.length cH, .bool op, .slice bL ko.length dL, .slice bH ki.length dH, .bool oq, .slice aM M.length cM] 29)).alloc (.cells #[.int .i64 0, .bool false, .slice none 0 0, .slice none 0 0] 32)) (Aw.key (Bs.nil _) (New.none _ _) HB.out 0 y) (bt (al _ _) (al _ _)) (by omega) (by rw [size_alloc, size_alloc]; omega) _, ?_⟩
  exact HA.out.symm
set_option maxRecDepth 100000 in
set_option maxHeartbeats 3200000 in
theorem gtold_5 (w : World) (aA : Option Addr) (cA : Nat) (A : List Nat) (aB : Option Addr) (cB : Nat) (B : List Nat) (aL : Option Addr) (cL : Nat) (lo : List Nat) (aH : Option Addr) (cH : Nat) (hi : List Nat) (op : Bool) (bL : Option Addr) (dL : Nat) (ko : List Nat) (bH : Option Addr) (dH : Nat) (ki : List Nat) (oq : Bool) (aM : Option Addr) (cM : Nat) (M : List Rv) (h : Oi w ⟨5, aA, cA, A, aB, cB, B, ⟨aL, cL, lo, aH, cH, hi, op⟩, ⟨bL, dL, ko, bH, dH, ki, oq⟩, aM, cM, M⟩) (_ : Ob ⟨5, aA, cA, A, aB, cB, B, ⟨aL, cL, lo, aH, cH, hi, op⟩, ⟨bL, dL, ko, bH, dH, ki, oq⟩, aM, cM, M⟩) :
    Calls Try.prog 11 #[.agg #[.int .i64 5, .slice aA A.length cA, .slice aB B.length cB, .slice aL lo.length cL, .slice aH hi.length cH, .bool op, .slice bL ko.length dL, .slice bH ki.length dH, .bool oq, .slice aM M.length cM]] w fun e w' => ∃ a : Av, e = .returned (.agg a.cs) ∧ Aw w w' a ∧ a.an = Ov.ans ⟨5, aA, cA, A, aB, cB, B, ⟨aL, cL, lo, aH, cH, hi, op⟩, ⟨bL, dL, ko, bH, dH, ki, oq⟩, aM, cM, M⟩ := by
  have C := hide fun w1 (hb : Below w.heap.size w w1) => eEmpty_any w1 ⟨aL, cL, lo, aH, cH, hi, op⟩ (h.r.keep hb)
  have HA : Hid (Ov.ans ⟨5, aA, cA, A, aB, cB, B, ⟨aL, cL, lo, aH, cH, hi, op⟩, ⟨bL, dL, ko, bH, dH, ki, oq⟩, aM, cM, M⟩ = ⟨0, !has (Rv.rg ⟨aL, cL, lo, aH, cH, hi, op⟩) (least lo), [], []⟩) := rfl
  clear h
  generalize Ov.ans ⟨5, aA, cA, A, aB, cB, B, ⟨aL, cL, lo, aH, cH, hi, op⟩, ⟨bL, dL, ko, bH, dH, ki, oq⟩, aM, cM, M⟩ = an at *
  generalize (!has (Rv.rg ⟨aL, cL, lo, aH, cH, hi, op⟩) (least lo)) = y at *
  unfold Rv.val at *
  dsimp only [Rv.cs] at C
  go_enter Try.func11, Try.ntmps11
  go_wp2_with fail
  refine (C.out _ (bt (al _ _) (al _ _))).mono ?_
  rintro e w1 ⟨rfl, hb⟩
  have HB := hide hb
  clear hb
  have M1 := hide (m1_of HB.out)
  go_wp2_with (refine wpList_store_row rfl 32 _ _ rfl (w.heap.size + 1) _ rfl rfl 32 _ (M1.out) sizeAns rfl (by simp [Value.oneCell']) ?_)
  refine bodyPost_ret (v := .agg _) (results_cell_row Try.results11 _ _ (w.heap.size + 1) 32 _ (0, 0) _ rfl (setRow_heap _ _ _ _ _ _ (M1.out)) Try.underlying32 rfl sizeAns) rfl ?_
  refine ⟨⟨0, y, none, 0, [], none, 0, []⟩, rfl, Aw.fin (g := w.heap.size + 1) (W0 := (w.alloc (.cells #[.int .i64 5, .slice aA A.length cA, .slice aB B.length cB, .slice aL lo.length cL, .slice aH hi.length cH, .bool op, .slice bL ko.length dL, .slice bH ki.length dH, .bool oq, .slice aM M.length cM] 29)).alloc (.cells #[.int .i64 0, .bool false, .slice none 0 0, .slice none 0 0] 32)) (Aw.key (Bs.nil _) (New.none _ _) HB.out 0 y) (bt (al _ _) (al _ _)) (by omega) (by rw [size_alloc, size_alloc]; omega) _, ?_⟩
  exact HA.out.symm
set_option maxRecDepth 100000 in
set_option maxHeartbeats 3200000 in
theorem gtold_6 (w : World) (aA : Option Addr) (cA : Nat) (A : List Nat) (aB : Option Addr) (cB : Nat) (B : List Nat) (aL : Option Addr) (cL : Nat) (lo : List Nat) (aH : Option Addr) (cH : Nat) (hi : List Nat) (op : Bool) (bL : Option Addr) (dL : Nat) (ko : List Nat) (bH : Option Addr) (dH : Nat) (ki : List Nat) (oq : Bool) (aM : Option Addr) (cM : Nat) (M : List Rv) (h : Oi w ⟨6, aA, cA, A, aB, cB, B, ⟨aL, cL, lo, aH, cH, hi, op⟩, ⟨bL, dL, ko, bH, dH, ki, oq⟩, aM, cM, M⟩) (_ : Ob ⟨6, aA, cA, A, aB, cB, B, ⟨aL, cL, lo, aH, cH, hi, op⟩, ⟨bL, dL, ko, bH, dH, ki, oq⟩, aM, cM, M⟩) :
    Calls Try.prog 11 #[.agg #[.int .i64 6, .slice aA A.length cA, .slice aB B.length cB, .slice aL lo.length cL, .slice aH hi.length cH, .bool op, .slice bL ko.length dL, .slice bH ki.length dH, .bool oq, .slice aM M.length cM]] w fun e w' => ∃ a : Av, e = .returned (.agg a.cs) ∧ Aw w w' a ∧ a.an = Ov.ans ⟨6, aA, cA, A, aB, cB, B, ⟨aL, cL, lo, aH, cH, hi, op⟩, ⟨bL, dL, ko, bH, dH, ki, oq⟩, aM, cM, M⟩ := by
  have C := hide fun w1 (hb : Below w.heap.size w w1) => eEqual_any w1 ⟨aL, cL, lo, aH, cH, hi, op⟩ ⟨bL, dL, ko, bH, dH, ki, oq⟩ (h.r.keep hb) (h.s.keep hb)
  have HA : Hid (Ov.ans ⟨6, aA, cA, A, aB, cB, B, ⟨aL, cL, lo, aH, cH, hi, op⟩, ⟨bL, dL, ko, bH, dH, ki, oq⟩, aM, cM, M⟩ = ⟨0, decide (form (Rv.rg ⟨aL, cL, lo, aH, cH, hi, op⟩) = form (Rv.rg ⟨bL, dL, ko, bH, dH, ki, oq⟩)), [], []⟩) := rfl
  clear h
  generalize Ov.ans ⟨6, aA, cA, A, aB, cB, B, ⟨aL, cL, lo, aH, cH, hi, op⟩, ⟨bL, dL, ko, bH, dH, ki, oq⟩, aM, cM, M⟩ = an at *
  generalize decide (form (Rv.rg ⟨aL, cL, lo, aH, cH, hi, op⟩) = form (Rv.rg ⟨bL, dL, ko, bH, dH, ki, oq⟩)) = y at *
  unfold Rv.val at *
  dsimp only [Rv.cs] at C
  go_enter Try.func11, Try.ntmps11
  go_wp2_with fail
  refine (C.out _ (bt (al _ _) (al _ _))).mono ?_
  rintro e w1 ⟨rfl, hb⟩
  have HB := hide hb
  clear hb
  have M1 := hide (m1_of HB.out)
  go_wp2_with (refine wpList_store_row rfl 32 _ _ rfl (w.heap.size + 1) _ rfl rfl 32 _ (M1.out) sizeAns rfl (by simp [Value.oneCell']) ?_)
  refine bodyPost_ret (v := .agg _) (results_cell_row Try.results11 _ _ (w.heap.size + 1) 32 _ (0, 0) _ rfl (setRow_heap _ _ _ _ _ _ (M1.out)) Try.underlying32 rfl sizeAns) rfl ?_
  refine ⟨⟨0, y, none, 0, [], none, 0, []⟩, rfl, Aw.fin (g := w.heap.size + 1) (W0 := (w.alloc (.cells #[.int .i64 6, .slice aA A.length cA, .slice aB B.length cB, .slice aL lo.length cL, .slice aH hi.length cH, .bool op, .slice bL ko.length dL, .slice bH ki.length dH, .bool oq, .slice aM M.length cM] 29)).alloc (.cells #[.int .i64 0, .bool false, .slice none 0 0, .slice none 0 0] 32)) (Aw.key (Bs.nil _) (New.none _ _) HB.out 0 y) (bt (al _ _) (al _ _)) (by omega) (by rw [size_alloc, size_alloc]; omega) _, ?_⟩
  exact HA.out.symm
set_option maxRecDepth 100000 in
set_option maxHeartbeats 3200000 in
theorem gtold_7 (w : World) (aA : Option Addr) (cA : Nat) (A : List Nat) (aB : Option Addr) (cB : Nat) (B : List Nat) (aL : Option Addr) (cL : Nat) (lo : List Nat) (aH : Option Addr) (cH : Nat) (hi : List Nat) (op : Bool) (bL : Option Addr) (dL : Nat) (ko : List Nat) (bH : Option Addr) (dH : Nat) (ki : List Nat) (oq : Bool) (aM : Option Addr) (cM : Nat) (M : List Rv) (h : Oi w ⟨7, aA, cA, A, aB, cB, B, ⟨aL, cL, lo, aH, cH, hi, op⟩, ⟨bL, dL, ko, bH, dH, ki, oq⟩, aM, cM, M⟩) (hb0 : Ob ⟨7, aA, cA, A, aB, cB, B, ⟨aL, cL, lo, aH, cH, hi, op⟩, ⟨bL, dL, ko, bH, dH, ki, oq⟩, aM, cM, M⟩) :
    Calls Try.prog 11 #[.agg #[.int .i64 7, .slice aA A.length cA, .slice aB B.length cB, .slice aL lo.length cL, .slice aH hi.length cH, .bool op, .slice bL ko.length dL, .slice bH ki.length dH, .bool oq, .slice aM M.length cM]] w fun e w' => ∃ a : Av, e = .returned (.agg a.cs) ∧ Aw w w' a ∧ a.an = Ov.ans ⟨7, aA, cA, A, aB, cB, B, ⟨aL, cL, lo, aH, cH, hi, op⟩, ⟨bL, dL, ko, bH, dH, ki, oq⟩, aM, cM, M⟩ := by
  have C := hide fun w1 (hb : Below w.heap.size w w1) => eMeet_any w1 ⟨aL, cL, lo, aH, cH, hi, op⟩ ⟨bL, dL, ko, bH, dH, ki, oq⟩ (h.r.keep hb) (h.s.keep hb) hb0.r hb0.s
  have HA : Hid (Ov.ans ⟨7, aA, cA, A, aB, cB, B, ⟨aL, cL, lo, aH, cH, hi, op⟩, ⟨bL, dL, ko, bH, dH, ki, oq⟩, aM, cM, M⟩ = ⟨0, false, [], [tpr (meet (Rv.rg ⟨aL, cL, lo, aH, cH, hi, op⟩) (Rv.rg ⟨bL, dL, ko, bH, dH, ki, oq⟩))]⟩) := rfl
  clear h hb0
  generalize Ov.ans ⟨7, aA, cA, A, aB, cB, B, ⟨aL, cL, lo, aH, cH, hi, op⟩, ⟨bL, dL, ko, bH, dH, ki, oq⟩, aM, cM, M⟩ = an at *
  generalize meet (Rv.rg ⟨aL, cL, lo, aH, cH, hi, op⟩) (Rv.rg ⟨bL, dL, ko, bH, dH, ki, oq⟩) = mg at *
  unfold Rv.val at *
  dsimp only [Rv.cs] at C
  go_enter Try.func11, Try.ntmps11
  go_wp2_with fail
  refine (C.out _ (bt (al _ _) (al _ _))).mono ?_
  rintro e w1 ⟨q, rfl, ro, hq⟩
  have RF := hide ro.rn
  have RB := hide ro.l.b
  have HQ := hide hq
  have M1 : Hid (∀ o, (w1.alloc o).heap[w.heap.size + 1]? = some (.cells #[.int .i64 0, .bool false, .slice none 0 0, .slice none 0 0] 32 (0, 0))) := fun o => m1_of (bt RB.out (al _ _))
  clear ro hq
  obtain ⟨q1, q2, ql, q3, q4, qh, qo⟩ := q
  dsimp only [Rv.cs]
  go_wp2_with (refine wpList_store_row rfl 32 _ _ rfl (w.heap.size + 1) _ rfl rfl 32 _ (M1.out _) sizeAns rfl (by simp [Value.oneCell']) ?_)
  refine bodyPost_ret (v := .agg _) (results_cell_row Try.results11 _ _ (w.heap.size + 1) 32 _ (0, 0) _ rfl (setRow_heap _ _ _ _ _ _ (M1.out _)) Try.underlying32 rfl sizeAns) rfl ?_
  refine ⟨⟨0, false, none, 0, [], some ⟨w1.heap.size, 0, none⟩, 1, [⟨q1, q2, ql, q3, q4, qh, qo⟩]⟩, rfl, Aw.fin (g := w.heap.size + 1) (W0 := (w.alloc (.cells #[.int .i64 7, .slice aA A.length cA, .slice aB B.length cB, .slice aL lo.length cL, .slice aH hi.length cH, .bool op, .slice bL ko.length dL, .slice bH ki.length dH, .bool oq, .slice aM M.length cM] 29)).alloc (.cells #[.int .i64 0, .bool false, .slice none 0 0, .slice none 0 0] 32)) (Aw.list (M := [⟨q1, q2, ql, q3, q4, qh, qo⟩]) (qown1 RB.out ⟨q1, q2, ql, q3, q4, qh, qo⟩) (fun r hr => by rw [List.mem_singleton.1 hr]; exact RF.out.keep (al _ _)) (by simp) 0 false) (bt (al _ _) (al _ _)) (by omega) (by rw [size_alloc, size_alloc]; omega) _, ?_⟩
  rw [HA.out]; show (⟨0, false, [], [tpr (Rv.rg ⟨q1, q2, ql, q3, q4, qh, qo⟩)]⟩ : An) = _; rw [HQ.out]
set_option maxRecDepth 100000 in
set_option maxHeartbeats 3200000 in
theorem gtold_8 (w : World) (aA : Option Addr) (cA : Nat) (A : List Nat) (aB : Option Addr) (cB : Nat) (B : List Nat) (aL : Option Addr) (cL : Nat) (lo : List Nat) (aH : Option Addr) (cH : Nat) (hi : List Nat) (op : Bool) (bL : Option Addr) (dL : Nat) (ko : List Nat) (bH : Option Addr) (dH : Nat) (ki : List Nat) (oq : Bool) (aM : Option Addr) (cM : Nat) (M : List Rv) (h : Oi w ⟨8, aA, cA, A, aB, cB, B, ⟨aL, cL, lo, aH, cH, hi, op⟩, ⟨bL, dL, ko, bH, dH, ki, oq⟩, aM, cM, M⟩) (hb0 : Ob ⟨8, aA, cA, A, aB, cB, B, ⟨aL, cL, lo, aH, cH, hi, op⟩, ⟨bL, dL, ko, bH, dH, ki, oq⟩, aM, cM, M⟩) :
    Calls Try.prog 11 #[.agg #[.int .i64 8, .slice aA A.length cA, .slice aB B.length cB, .slice aL lo.length cL, .slice aH hi.length cH, .bool op, .slice bL ko.length dL, .slice bH ki.length dH, .bool oq, .slice aM M.length cM]] w fun e w' => ∃ a : Av, e = .returned (.agg a.cs) ∧ Aw w w' a ∧ a.an = Ov.ans ⟨8, aA, cA, A, aB, cB, B, ⟨aL, cL, lo, aH, cH, hi, op⟩, ⟨bL, dL, ko, bH, dH, ki, oq⟩, aM, cM, M⟩ := by
  have C := hide fun w1 (hb : Below w.heap.size w w1) => eAbove_any w1 aA A.length cA A (h.a.keep hb) rfl (by have := hb0.a; dsimp only at this; omega)
  have HA : Hid (Ov.ans ⟨8, aA, cA, A, aB, cB, B, ⟨aL, cL, lo, aH, cH, hi, op⟩, ⟨bL, dL, ko, bH, dH, ki, oq⟩, aM, cM, M⟩ = ⟨0, false, [], [tpr (above A)]⟩) := rfl
  clear h hb0
  generalize Ov.ans ⟨8, aA, cA, A, aB, cB, B, ⟨aL, cL, lo, aH, cH, hi, op⟩, ⟨bL, dL, ko, bH, dH, ki, oq⟩, aM, cM, M⟩ = an at *
  generalize above A = mg at *
  unfold Rv.val at *
  dsimp only [Rv.cs] at C
  go_enter Try.func11, Try.ntmps11
  go_wp2_with fail
  refine (C.out _ (bt (al _ _) (al _ _))).mono ?_
  rintro e w1 ⟨q, rfl, ro, hq⟩
  have RF := hide ro
  have RB := hide ro.b
  have HQ := hide hq
  have M1 : Hid (∀ o, (w1.alloc o).heap[w.heap.size + 1]? = some (.cells #[.int .i64 0, .bool false, .slice none 0 0, .slice none 0 0] 32 (0, 0))) := fun o => m1_of (bt RB.out (al _ _))
  clear ro hq
  obtain ⟨q1, q2, ql, q3, q4, qh, qo⟩ := q
  dsimp only [Rv.cs]
  go_wp2_with (refine wpList_store_row rfl 32 _ _ rfl (w.heap.size + 1) _ rfl rfl 32 _ (M1.out _) sizeAns rfl (by simp [Value.oneCell']) ?_)
  refine bodyPost_ret (v := .agg _) (results_cell_row Try.results11 _ _ (w.heap.size + 1) 32 _ (0, 0) _ rfl (setRow_heap _ _ _ _ _ _ (M1.out _)) Try.underlying32 rfl sizeAns) rfl ?_
  refine ⟨⟨0, false, none, 0, [], some ⟨w1.heap.size, 0, none⟩, 1, [⟨q1, q2, ql, q3, q4, qh, qo⟩]⟩, rfl, Aw.fin (g := w.heap.size + 1) (W0 := (w.alloc (.cells #[.int .i64 8, .slice aA A.length cA, .slice aB B.length cB, .slice aL lo.length cL, .slice aH hi.length cH, .bool op, .slice bL ko.length dL, .slice bH ki.length dH, .bool oq, .slice aM M.length cM] 29)).alloc (.cells #[.int .i64 0, .bool false, .slice none 0 0, .slice none 0 0] 32)) (Aw.list (M := [⟨q1, q2, ql, q3, q4, qh, qo⟩]) (qown1 RB.out ⟨q1, q2, ql, q3, q4, qh, qo⟩) (fun r hr => by rw [List.mem_singleton.1 hr]; exact RF.out.keep (al _ _)) (by simp) 0 false) (bt (al _ _) (al _ _)) (by omega) (by rw [size_alloc, size_alloc]; omega) _, ?_⟩
  rw [HA.out]; show (⟨0, false, [], [tpr (Rv.rg ⟨q1, q2, ql, q3, q4, qh, qo⟩)]⟩ : An) = _; rw [HQ.out]
set_option maxRecDepth 100000 in
set_option maxHeartbeats 3200000 in
theorem gtold_9 (w : World) (aA : Option Addr) (cA : Nat) (A : List Nat) (aB : Option Addr) (cB : Nat) (B : List Nat) (aL : Option Addr) (cL : Nat) (lo : List Nat) (aH : Option Addr) (cH : Nat) (hi : List Nat) (op : Bool) (bL : Option Addr) (dL : Nat) (ko : List Nat) (bH : Option Addr) (dH : Nat) (ki : List Nat) (oq : Bool) (aM : Option Addr) (cM : Nat) (M : List Rv) (h : Oi w ⟨9, aA, cA, A, aB, cB, B, ⟨aL, cL, lo, aH, cH, hi, op⟩, ⟨bL, dL, ko, bH, dH, ki, oq⟩, aM, cM, M⟩) (hb0 : Ob ⟨9, aA, cA, A, aB, cB, B, ⟨aL, cL, lo, aH, cH, hi, op⟩, ⟨bL, dL, ko, bH, dH, ki, oq⟩, aM, cM, M⟩) :
    Calls Try.prog 11 #[.agg #[.int .i64 9, .slice aA A.length cA, .slice aB B.length cB, .slice aL lo.length cL, .slice aH hi.length cH, .bool op, .slice bL ko.length dL, .slice bH ki.length dH, .bool oq, .slice aM M.length cM]] w fun e w' => ∃ a : Av, e = .returned (.agg a.cs) ∧ Aw w w' a ∧ a.an = Ov.ans ⟨9, aA, cA, A, aB, cB, B, ⟨aL, cL, lo, aH, cH, hi, op⟩, ⟨bL, dL, ko, bH, dH, ki, oq⟩, aM, cM, M⟩ := by
  have C := hide fun w1 (hb : Below w.heap.size w w1) => eSplit_any w1 ⟨aL, cL, lo, aH, cH, hi, op⟩ aA A.length cA A (h.r.keep hb) hb0.r (h.a.keep hb) rfl (by have := hb0.a; dsimp only at this; omega)
  have HA : Hid (Ov.ans ⟨9, aA, cA, A, aB, cB, B, ⟨aL, cL, lo, aH, cH, hi, op⟩, ⟨bL, dL, ko, bH, dH, ki, oq⟩, aM, cM, M⟩ = ⟨0, false, [], [tpr (splitL (Rv.rg ⟨aL, cL, lo, aH, cH, hi, op⟩) A), tpr (splitH (Rv.rg ⟨aL, cL, lo, aH, cH, hi, op⟩) A)]⟩) := rfl
  clear h hb0
  generalize Ov.ans ⟨9, aA, cA, A, aB, cB, B, ⟨aL, cL, lo, aH, cH, hi, op⟩, ⟨bL, dL, ko, bH, dH, ki, oq⟩, aM, cM, M⟩ = an at *
  generalize splitL (Rv.rg ⟨aL, cL, lo, aH, cH, hi, op⟩) A = mg at *
  generalize splitH (Rv.rg ⟨aL, cL, lo, aH, cH, hi, op⟩) A = mh at *
  unfold Rv.val at *
  dsimp only [Rv.cs] at C
  go_enter Try.func11, Try.ntmps11
  go_wp2_with fail
  refine (C.out _ (bt (al _ _) (al _ _))).mono ?_
  rintro e w1 ⟨q, s, rfl, rq, rs, hq, hs⟩
  have RF := hide (And.intro rq rs)
  have RB := hide rq.b
  clear rq rs
  have HQ := hide hq
  have HS := hide hs
  clear hq hs
  obtain ⟨q1, q2, ql, q3, q4, qh, qo⟩ := q
  obtain ⟨s1, s2, sl, s3, s4, sh, so⟩ := s
  dsimp only [Rv.cs]
  have M1 : Hid (∀ W, Below w1.heap.size w1 W → W.heap[w.heap.size + 1]? = some (.cells #[.int .i64 0, .bool false, .slice none 0 0, .slice none 0 0] 32 (0, 0))) := fun W hb => m1_of (bt RB.out hb)
  have BE : Hid (Below w1.heap.size w1 ((w1.alloc (.cells #[.slice q1 ql.length q2, .slice q3 qh.length q4, .bool qo] 26)).alloc (.cells #[.slice s1 sl.length s2, .slice s3 sh.length s4, .bool so] 26))) := bt (al _ _) (al _ _)
  go_wp2_with (refine wpList_store_row rfl 32 _ _ rfl (w.heap.size + 1) _ rfl rfl 32 _ (M1.out _ ?hb) sizeAns rfl (by simp [Value.oneCell']) ?_)
  case hb => exact bt BE.out (al _ _)
  refine bodyPost_ret (v := .agg _) (results_cell_row Try.results11 _ _ (w.heap.size + 1) 32 _ (0, 0) _ rfl (setRow_heap _ _ _ _ _ _ (M1.out _ (bt BE.out (al _ _)))) Try.underlying32 rfl sizeAns) rfl ?_
  refine ⟨⟨0, false, none, 0, [], some ⟨w1.heap.size + 1 + 1, 0, none⟩, 2, [⟨q1, q2, ql, q3, q4, qh, qo⟩, ⟨s1, s2, sl, s3, s4, sh, so⟩]⟩, rfl, Aw.fin (g := w.heap.size + 1) (W0 := (w.alloc (.cells #[.int .i64 9, .slice aA A.length cA, .slice aB B.length cB, .slice aL lo.length cL, .slice aH hi.length cH, .bool op, .slice bL ko.length dL, .slice bH ki.length dH, .bool oq, .slice aM M.length cM] 29)).alloc (.cells #[.int .i64 0, .bool false, .slice none 0 0, .slice none 0 0] 32)) (Aw.list (M := [⟨q1, q2, ql, q3, q4, qh, qo⟩, ⟨s1, s2, sl, s3, s4, sh, so⟩]) (qown2 (bt RB.out BE.out) (g := w1.heap.size + 1 + 1) (by rw [size_alloc, size_alloc]) ⟨q1, q2, ql, q3, q4, qh, qo⟩ ⟨s1, s2, sl, s3, s4, sh, so⟩) (fun r hr => by simp only [List.mem_cons, List.not_mem_nil, or_false] at hr; rcases hr with rfl | rfl; exact RF.out.1.keep (bt BE.out (al _ _)); exact RF.out.2.keep (bt BE.out (al _ _))) (by simp) 0 false) (bt (al _ _) (al _ _)) (by omega) (by rw [size_alloc, size_alloc]; omega) _, ?_⟩
  rw [HA.out]; show (⟨0, false, [], [tpr (Rv.rg ⟨q1, q2, ql, q3, q4, qh, qo⟩), tpr (Rv.rg ⟨s1, s2, sl, s3, s4, sh, so⟩)]⟩ : An) = _; rw [HQ.out, HS.out]
set_option maxRecDepth 100000 in
set_option maxHeartbeats 3200000 in
theorem gtold_10 (w : World) (kd : Int) (aA : Option Addr) (cA : Nat) (A : List Nat) (aB : Option Addr) (cB : Nat) (B : List Nat) (aL : Option Addr) (cL : Nat) (lo : List Nat) (aH : Option Addr) (cH : Nat) (hi : List Nat) (op : Bool) (bL : Option Addr) (dL : Nat) (ko : List Nat) (bH : Option Addr) (dH : Nat) (ki : List Nat) (oq : Bool) (aM : Option Addr) (cM : Nat) (M : List Rv) (h : Oi w ⟨kd, aA, cA, A, aB, cB, B, ⟨aL, cL, lo, aH, cH, hi, op⟩, ⟨bL, dL, ko, bH, dH, ki, oq⟩, aM, cM, M⟩) (hb0 : Ob ⟨kd, aA, cA, A, aB, cB, B, ⟨aL, cL, lo, aH, cH, hi, op⟩, ⟨bL, dL, ko, bH, dH, ki, oq⟩, aM, cM, M⟩) (hk : kd ≠ 0 ∧ kd ≠ 1 ∧ kd ≠ 2 ∧ kd ≠ 3 ∧ kd ≠ 4 ∧ kd ≠ 5 ∧ kd ≠ 6 ∧ kd ≠ 7 ∧ kd ≠ 8 ∧ kd ≠ 9) :
    Calls Try.prog 11 #[.agg #[.int .i64 kd, .slice aA A.length cA, .slice aB B.length cB, .slice aL lo.length cL, .slice aH hi.length cH, .bool op, .slice bL ko.length dL, .slice bH ki.length dH, .bool oq, .slice aM M.length cM]] w fun e w' => ∃ a : Av, e = .returned (.agg a.cs) ∧ Aw w w' a ∧ a.an = Ov.ans ⟨kd, aA, cA, A, aB, cB, B, ⟨aL, cL, lo, aH, cH, hi, op⟩, ⟨bL, dL, ko, bH, dH, ki, oq⟩, aM, cM, M⟩ := by
  have C := hide fun w1 (hb : Below w.heap.size w w1) => eCover_any w1 aM M.length cM M (h.m.keep hb) rfl (by have := hb0.m; dsimp only at this; omega)
  have CL : Hid ((cover (M.map Rv.rg)).length ≤ 1048576) := Nat.le_trans (cover_len M) hb0.m
  have HA : Hid (Ov.ans ⟨kd, aA, cA, A, aB, cB, B, ⟨aL, cL, lo, aH, cH, hi, op⟩, ⟨bL, dL, ko, bH, dH, ki, oq⟩, aM, cM, M⟩ = ⟨0, false, [], (cover (M.map Rv.rg)).map fun f => tpr (rgOf f)⟩) := by show ansOf _ _ _ _ _ _ = _; unfold ansOf; rw [if_neg hk.1, if_neg hk.2.1, if_neg hk.2.2.1, if_neg hk.2.2.2.1, if_neg hk.2.2.2.2.1, if_neg hk.2.2.2.2.2.1, if_neg hk.2.2.2.2.2.2.1, if_neg hk.2.2.2.2.2.2.2.1, if_neg hk.2.2.2.2.2.2.2.2.1, if_neg hk.2.2.2.2.2.2.2.2.2]
  have k0 : (kd == 0) = false := by simpa using hk.1
  have k1 : (kd == 1) = false := by simpa using hk.2.1
  have k2 : (kd == 2) = false := by simpa using hk.2.2.1
  have k3 : (kd == 3) = false := by simpa using hk.2.2.2.1
  have k4 : (kd == 4) = false := by simpa using hk.2.2.2.2.1
  have k5 : (kd == 5) = false := by simpa using hk.2.2.2.2.2.1
  have k6 : (kd == 6) = false := by simpa using hk.2.2.2.2.2.2.1
  have k7 : (kd == 7) = false := by simpa using hk.2.2.2.2.2.2.2.1
  have k8 : (kd == 8) = false := by simpa using hk.2.2.2.2.2.2.2.2.1
  have k9 : (kd == 9) = false := by simpa using hk.2.2.2.2.2.2.2.2.2
  clear hk
  clear h hb0
  generalize Ov.ans ⟨kd, aA, cA, A, aB, cB, B, ⟨aL, cL, lo, aH, cH, hi, op⟩, ⟨bL, dL, ko, bH, dH, ki, oq⟩, aM, cM, M⟩ = an at *
  go_enter Try.func11, Try.ntmps11
  go_wp2_with fail
  refine (C.out _ (bt (al _ _) (al _ _))).mono ?_
  rintro e w1 ⟨a1, c1, D, rfl, hL, hC⟩
  have HL := hide hL
  have HC := hide (cover_tp hL.m hC)
  have hlen : D.length ≤ 1048576 := by have h1 := map_len hC; have := CL.out; omega
  have HLEN := hide hlen
  have M1 := hide (m1_of hL.q.b)
  clear hL hC hlen
  go_wp2_with (refine wpList_store_row rfl 32 _ _ rfl (w.heap.size + 1) _ rfl rfl 32 _ (M1.out) sizeAns rfl (by simp [Value.oneCell']) ?_)
  refine bodyPost_ret (v := .agg _) (results_cell_row Try.results11 _ _ (w.heap.size + 1) 32 _ (0, 0) _ rfl (setRow_heap _ _ _ _ _ _ (M1.out)) Try.underlying32 rfl sizeAns) rfl ?_
  refine ⟨⟨0, false, none, 0, [], a1, c1, D⟩, rfl, Aw.fin (g := w.heap.size + 1) (W0 := (w.alloc (.cells #[.int .i64 kd, .slice aA A.length cA, .slice aB B.length cB, .slice aL lo.length cL, .slice aH hi.length cH, .bool op, .slice bL ko.length dL, .slice bH ki.length dH, .bool oq, .slice aM M.length cM] 29)).alloc (.cells #[.int .i64 0, .bool false, .slice none 0 0, .slice none 0 0] 32)) (Aw.list HL.out.q (fun r hr => ⟨HL.out.i r hr, (HL.out.n r hr).1, (HL.out.n r hr).2, HL.out.q.b⟩) HLEN.out 0 false) (bt (al _ _) (al _ _)) (by omega) (by rw [size_alloc, size_alloc]; omega) _, ?_⟩
  rw [HA.out]; show (⟨0, false, [], D.map Rv.tp⟩ : An) = _; rw [HC.out]
theorem gtold_any (w : World) (o : Ov) (h : Oi w o) (hb0 : Ob o) : Calls Try.prog 11 #[.agg o.cs] w fun e w' => ∃ a : Av, e = .returned (.agg a.cs) ∧ Aw w w' a ∧ a.an = o.ans := by
  obtain ⟨kd, aA, cA, A, aB, cB, B, ⟨aL, cL, lo, aH, cH, hi, op⟩, ⟨bL, dL, ko, bH, dH, ki, oq⟩, aM, cM, M⟩ := o
  by_cases h0 : kd = 0
  · subst h0; exact gtold_0 w aA cA A aB cB B aL cL lo aH cH hi op bL dL ko bH dH ki oq aM cM M h hb0
  by_cases h1 : kd = 1
  · subst h1; exact gtold_1 w aA cA A aB cB B aL cL lo aH cH hi op bL dL ko bH dH ki oq aM cM M h hb0
  by_cases h2 : kd = 2
  · subst h2; exact gtold_2 w aA cA A aB cB B aL cL lo aH cH hi op bL dL ko bH dH ki oq aM cM M h hb0
  by_cases h3 : kd = 3
  · subst h3; exact gtold_3 w aA cA A aB cB B aL cL lo aH cH hi op bL dL ko bH dH ki oq aM cM M h hb0
  by_cases h4 : kd = 4
  · subst h4; exact gtold_4 w aA cA A aB cB B aL cL lo aH cH hi op bL dL ko bH dH ki oq aM cM M h hb0
  by_cases h5 : kd = 5
  · subst h5; exact gtold_5 w aA cA A aB cB B aL cL lo aH cH hi op bL dL ko bH dH ki oq aM cM M h hb0
  by_cases h6 : kd = 6
  · subst h6; exact gtold_6 w aA cA A aB cB B aL cL lo aH cH hi op bL dL ko bH dH ki oq aM cM M h hb0
  by_cases h7 : kd = 7
  · subst h7; exact gtold_7 w aA cA A aB cB B aL cL lo aH cH hi op bL dL ko bH dH ki oq aM cM M h hb0
  by_cases h8 : kd = 8
  · subst h8; exact gtold_8 w aA cA A aB cB B aL cL lo aH cH hi op bL dL ko bH dH ki oq aM cM M h hb0
  by_cases h9 : kd = 9
  · subst h9; exact gtold_9 w aA cA A aB cB B aL cL lo aH cH hi op bL dL ko bH dH ki oq aM cM M h hb0
  exact gtold_10 w kd aA cA A aB cB B aL cL lo aH cH hi op bL dL ko bH dH ki oq aM cM M h hb0 ⟨h0, h1, h2, h3, h4, h5, h6, h7, h8, h9⟩
end Go.Proofs.Ytbobnfjbbablkaa
