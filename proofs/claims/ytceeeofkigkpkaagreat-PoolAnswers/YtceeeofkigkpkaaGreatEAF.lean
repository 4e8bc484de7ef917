import Derived.Test.YtceeeofkigkpkaaGreatEAE
namespace Go.Proofs.YtceeeofkigkpkaaGreat
set_option linter.unusedVariables false
open Go.RowKit

/-! ### asked -/
theorem sizeAns : (Tryz.prog.info? 34).map (·.size) = some 5 := by kernel_rfl
structure An where
  n : Int
  m : Int
  is : Bool
  l : List Int
  e : Int
def An.num (n : Int) : An := ⟨n, 0, false, [], 0⟩
def Po.ask (P : Po) (o : Ov) : An × Po :=
  if o.1 = 0 then (⟨P.alloc.1.1, 0, false, [], P.alloc.1.2⟩, P.alloc.2)
  else if o.1 = 1 then (⟨0, 0, false, [], (P.inc o.2.1).1⟩, (P.inc o.2.1).2)
  else if o.1 = 2 then (⟨(P.dec o.2.1).1.1, 0, false, [], (P.dec o.2.1).1.2⟩, (P.dec o.2.1).2)
  else if o.1 = 3 then (.num (P.count o.2.1), P)
  else if o.1 = 4 then (.num (P.state o.2.1 : Nat), P)
  else if o.1 = 5 then (.num ((P.pages o.2.1).length : Nat), P)
  else if o.1 = 6 then (⟨0, 0, false, wl (P.pages o.2.1) o.2.2, 0⟩, P)
  else if o.1 = 7 then (⟨0, 0, false, P.counts, 0⟩, P)
  else if o.1 = 8 then (.num (P.mark : Nat), P)
  else if o.1 = 9 then (⟨0, 0, P.canUndo o.2.1, [], 0⟩, P.undo o.2.1)
  else if o.1 = 10 then (.num 0, P.settle)
  else if o.1 = 11 then (⟨(P.pg.length : Nat), P.rf, false, [], 0⟩, P)
  else (⟨0, 0, P.canUndo (-1), [], 0⟩, P.undo (-1))
/-- what a pool was asked: the answer in new memory -/
def Asked (w : World) (col : Nat → Nat) (b : Nat) (A : An) (P : Po) (e : Ending) (w' : World) : Prop :=
  ∃ a c col', e = .returned (.agg #[.int .i64 A.n, .int .i64 A.m, .bool A.is, .slice a A.l.length c, .int .i64 A.e]) ∧ Ir w' a A.l ∧ (∀ x, a = some x → w.heap.size ≤ x.block ∧ x.block < w'.heap.size ∧ col' x.block = 0) ∧ Pl w' b P col' ∧ Fr w col w' col'
theorem asked_fin {w v w2 : World} {b : Nat} {P0 P : Po} {col c2 : Nat → Nat} (h0 : Pl w b P0 col) (hv : Below w.heap.size w v) (hs : v.heap.size = w.heap.size + 2) (h2 : Pl w2 b P c2) (f2 : Fr v col w2 c2) (A : An) (a : Option Addr) (c : Nat) (hI : Ig w2 a c A.l) (hn : ∀ x, a = some x → v.heap.size ≤ x.block ∧ c2 x.block = 0) (cs : Array Value) :
    Asked w col b A P (.returned (.agg #[.int .i64 A.n, .int .i64 A.m, .bool A.is, .slice a A.l.length c, .int .i64 A.e])) (w2.setRow (w.heap.size + 1) cs) := by
  have cg : c2 (w.heap.size + 1) = 0 := by
    rw [f2.c _ (by omega)]
    by_cases e : col (w.heap.size + 1) = 0
    · exact e
    · have := h0.lt _ e; omega
  have B := setRow_but w2 (w.heap.size + 1) cs
  refine ⟨a, c, c2, rfl, (hI.but B fun x hx e => ?_).ir, fun x hx => ⟨?_, ?_, (hn x hx).2⟩, h2.but B (fun k hk e => hk (by rw [e]; exact cg)), ((Fr.keep hv).trans f2).b.trans B (fun k hk e => by omega), ((Fr.keep hv).trans f2).c⟩
  · have := (hn x hx).1; omega
  · have := (hn x hx).1; omega
  · rw [setRow_size]; exact hI.lt hx
theorem own_col {v w2 : World} {b : Nat} {P : Po} {col : Nat → Nat} {a : Option Addr} {c : Nat} {l : List Int} (h : Pl v b P col) (hI : IOwn v w2 a c l) : ∀ x, a = some x → v.heap.size ≤ x.block ∧ col x.block = 0 := fun x hx => by
  have h2 : v.heap.size ≤ x.block := by
    rcases hI.n x hx with ⟨y, hy, _⟩ | h2
    · cases hy
    · exact h2
  refine ⟨h2, ?_⟩
  by_cases e : col x.block = 0
  · exact e
  · have := h.lt _ e; omega
set_option maxHeartbeats 1000000 in
theorem ago_none (w : World) (n : Int) : Calls Tryz.prog 31 #[.slice none 0 0, .int .i64 n] w fun e w' => e = .returned (.int .i64 (-1)) ∧ w' = w := by
  by_cases h : n < 0
  · have d : decide (n < 0) = true := decide_eq_true h
    go_enter Tryz.func31, Tryz.ntmps31
    go_wp2
    go_ret
    exact ⟨rfl, rfl⟩
  · have d : decide (n < 0) = false := decide_eq_false h
    have d2 : decide ((0 : Int) ≤ n) = true := decide_eq_true (by omega)
    have d3 : (0 : Int) ≤ n := by omega
    go_enter Tryz.func31, Tryz.ntmps31
    go_wp2
    go_ret
    exact ⟨rfl, rfl⟩
set_option maxHeartbeats 4000000 in
set_option maxRecDepth 8000 in
theorem asked_0 (w : World) (b : Nat) (P : Po) (col : Nat → Nat) (h : Pl w b P col) (hm : P.mark + 1 ≤ 17592186044416) (n st : Int) :
    Calls Tryz.prog 6 #[.pointer (some ⟨b, 0, none⟩), .agg #[.int .i64 0, .int .i64 n, .int .i64 st], .slice none 0 0] w fun e w' => Asked w col b (⟨P.alloc.1.1, 0, false, [], P.alloc.1.2⟩) P.alloc.2 e w' := by
  have V := hide (bt (al w (.cells #[.int .i64 0, .int .i64 n, .int .i64 st] 37)) (al _ (.cells #[.int .i64 0, .int .i64 0, .bool false, .slice none 0 0, .int .i64 0] 34)))
  have hx := (al (w.alloc (.cells #[.int .i64 0, .int .i64 n, .int .i64 st] 37)) (.cells #[.int .i64 0, .int .i64 0, .bool false, .slice none 0 0, .int .i64 0] 34)).block w.heap.size (by rw [size_alloc]; omega) |>.trans (World.alloc_heap_new w (.cells #[.int .i64 0, .int .i64 n, .int .i64 st] 37))
  have x0 := cell_of_row _ _ 0 _ _ _ hx
  have x1 := cell_of_row _ _ 1 _ _ _ hx
  have x2 := cell_of_row _ _ 2 _ _ _ hx
  have M1 := hide (World.alloc_heap_new (w.alloc (.cells #[.int .i64 0, .int .i64 n, .int .i64 st] 37)) (.cells #[.int .i64 0, .int .i64 0, .bool false, .slice none 0 0, .int .i64 0] 34))
  rw [size_alloc] at M1
  have SZ := hide (show ((w.alloc (.cells #[.int .i64 0, .int .i64 n, .int .i64 st] 37)).alloc (.cells #[.int .i64 0, .int .i64 0, .bool false, .slice none 0 0, .int .i64 0] 34)).heap.size = w.heap.size + 2 by rw [size_alloc, size_alloc])
  have HV := hide (h.keep V.out)
  have H0 := hide h
  have CG := hide (show col (w.heap.size + 1) = 0 by
    by_cases e : col (w.heap.size + 1) = 0
    · exact e
    · have := h.lt _ e; omega)
  simp only [List.getElem?_toArray, List.getElem?_cons_zero, List.getElem?_cons_succ] at x0 x1 x2
  clear h hx
  have CA := hide (Alloc_any _ b P col HV.out (by have := P.ac_mark; omega))
  have FIN := hide fun (w2 : World) (c2 : Nat → Nat) (h2 : Pl w2 b P.alloc.2 c2) f2 => asked_fin H0.out V.out SZ.out h2 f2 (⟨P.alloc.1.1, 0, false, [], P.alloc.1.2⟩)
  go_enter Tryz.func6, Tryz.ntmps6
  go_wp2_with fail
  generalize World.alloc (World.alloc _ _) _ = v at *
  refine CA.out.mono ?_
  rintro _ w2 ⟨rfl, c2, h2, f2⟩
  have M2 := hide ((f2.b.block _ (by rw [SZ.out]; omega) (fun e => e CG.out)).trans M1.out)
  have F2 := hide (FIN.out w2 c2 h2 f2 none 0 (Ig.nil _) (fun x hx => by cases hx))
  clear h2 f2
  clear CA FIN x0 x1 x2
  go_wp2_with (refine wpList_store_row rfl 34 _ _ rfl (w.heap.size + 1) _ rfl rfl 34 _ M2.out sizeAns rfl (by simp [Value.oneCell']) ?_)
  refine bodyPost_ret (v := .agg _) (results_cell_row Tryz.results6 _ _ (w.heap.size + 1) 34 _ (0, 0) _ rfl (setRow_heap _ _ _ _ _ _ M2.out) Tryz.underlying34 rfl sizeAns) rfl ?_
  exact F2.out _
set_option maxHeartbeats 4000000 in
set_option maxRecDepth 8000 in
theorem asked_1 (w : World) (b : Nat) (P : Po) (col : Nat → Nat) (h : Pl w b P col) (hm : P.mark + 1 ≤ 17592186044416) (n st : Int) :
    Calls Tryz.prog 6 #[.pointer (some ⟨b, 0, none⟩), .agg #[.int .i64 1, .int .i64 n, .int .i64 st], .slice none 0 0] w fun e w' => Asked w col b (⟨0, 0, false, [], (P.inc n).1⟩) (P.inc n).2 e w' := by
  have V := hide (bt (al w (.cells #[.int .i64 1, .int .i64 n, .int .i64 st] 37)) (al _ (.cells #[.int .i64 0, .int .i64 0, .bool false, .slice none 0 0, .int .i64 0] 34)))
  have hx := (al (w.alloc (.cells #[.int .i64 1, .int .i64 n, .int .i64 st] 37)) (.cells #[.int .i64 0, .int .i64 0, .bool false, .slice none 0 0, .int .i64 0] 34)).block w.heap.size (by rw [size_alloc]; omega) |>.trans (World.alloc_heap_new w (.cells #[.int .i64 1, .int .i64 n, .int .i64 st] 37))
  have x0 := cell_of_row _ _ 0 _ _ _ hx
  have x1 := cell_of_row _ _ 1 _ _ _ hx
  have x2 := cell_of_row _ _ 2 _ _ _ hx
  have M1 := hide (World.alloc_heap_new (w.alloc (.cells #[.int .i64 1, .int .i64 n, .int .i64 st] 37)) (.cells #[.int .i64 0, .int .i64 0, .bool false, .slice none 0 0, .int .i64 0] 34))
  rw [size_alloc] at M1
  have SZ := hide (show ((w.alloc (.cells #[.int .i64 1, .int .i64 n, .int .i64 st] 37)).alloc (.cells #[.int .i64 0, .int .i64 0, .bool false, .slice none 0 0, .int .i64 0] 34)).heap.size = w.heap.size + 2 by rw [size_alloc, size_alloc])
  have HV := hide (h.keep V.out)
  have H0 := hide h
  have CG := hide (show col (w.heap.size + 1) = 0 by
    by_cases e : col (w.heap.size + 1) = 0
    · exact e
    · have := h.lt _ e; omega)
  simp only [List.getElem?_toArray, List.getElem?_cons_zero, List.getElem?_cons_succ] at x0 x1 x2
  clear h hx
  have CA := hide (Inc_any _ b P col HV.out n (by have := P.ac_mark; omega))
  have FIN := hide fun (w2 : World) (c2 : Nat → Nat) (h2 : Pl w2 b (P.inc n).2 c2) f2 => asked_fin H0.out V.out SZ.out h2 f2 (⟨0, 0, false, [], (P.inc n).1⟩)
  go_enter Tryz.func6, Tryz.ntmps6
  go_wp2_with fail
  generalize World.alloc (World.alloc _ _) _ = v at *
  refine CA.out.mono ?_
  rintro _ w2 ⟨rfl, c2, h2, f2⟩
  have M2 := hide ((f2.b.block _ (by rw [SZ.out]; omega) (fun e => e CG.out)).trans M1.out)
  have F2 := hide (FIN.out w2 c2 h2 f2 none 0 (Ig.nil _) (fun x hx => by cases hx))
  clear h2 f2
  clear CA FIN x0 x1 x2
  go_wp2_with (refine wpList_store_row rfl 34 _ _ rfl (w.heap.size + 1) _ rfl rfl 34 _ M2.out sizeAns rfl (by simp [Value.oneCell']) ?_)
  refine bodyPost_ret (v := .agg _) (results_cell_row Tryz.results6 _ _ (w.heap.size + 1) 34 _ (0, 0) _ rfl (setRow_heap _ _ _ _ _ _ M2.out) Tryz.underlying34 rfl sizeAns) rfl ?_
  exact F2.out _
set_option maxHeartbeats 4000000 in
set_option maxRecDepth 8000 in
theorem asked_2 (w : World) (b : Nat) (P : Po) (col : Nat → Nat) (h : Pl w b P col) (hm : P.mark + 1 ≤ 17592186044416) (n st : Int) :
    Calls Tryz.prog 6 #[.pointer (some ⟨b, 0, none⟩), .agg #[.int .i64 2, .int .i64 n, .int .i64 st], .slice none 0 0] w fun e w' => Asked w col b (⟨(P.dec n).1.1, 0, false, [], (P.dec n).1.2⟩) (P.dec n).2 e w' := by
  have V := hide (bt (al w (.cells #[.int .i64 2, .int .i64 n, .int .i64 st] 37)) (al _ (.cells #[.int .i64 0, .int .i64 0, .bool false, .slice none 0 0, .int .i64 0] 34)))
  have hx := (al (w.alloc (.cells #[.int .i64 2, .int .i64 n, .int .i64 st] 37)) (.cells #[.int .i64 0, .int .i64 0, .bool false, .slice none 0 0, .int .i64 0] 34)).block w.heap.size (by rw [size_alloc]; omega) |>.trans (World.alloc_heap_new w (.cells #[.int .i64 2, .int .i64 n, .int .i64 st] 37))
  have x0 := cell_of_row _ _ 0 _ _ _ hx
  have x1 := cell_of_row _ _ 1 _ _ _ hx
  have x2 := cell_of_row _ _ 2 _ _ _ hx
  have M1 := hide (World.alloc_heap_new (w.alloc (.cells #[.int .i64 2, .int .i64 n, .int .i64 st] 37)) (.cells #[.int .i64 0, .int .i64 0, .bool false, .slice none 0 0, .int .i64 0] 34))
  rw [size_alloc] at M1
  have SZ := hide (show ((w.alloc (.cells #[.int .i64 2, .int .i64 n, .int .i64 st] 37)).alloc (.cells #[.int .i64 0, .int .i64 0, .bool false, .slice none 0 0, .int .i64 0] 34)).heap.size = w.heap.size + 2 by rw [size_alloc, size_alloc])
  have HV := hide (h.keep V.out)
  have H0 := hide h
  have CG := hide (show col (w.heap.size + 1) = 0 by
    by_cases e : col (w.heap.size + 1) = 0
    · exact e
    · have := h.lt _ e; omega)
  simp only [List.getElem?_toArray, List.getElem?_cons_zero, List.getElem?_cons_succ] at x0 x1 x2
  clear h hx
  have CA := hide (Dec_any _ b P col HV.out n (by have := P.ac_mark; omega))
  have FIN := hide fun (w2 : World) (c2 : Nat → Nat) (h2 : Pl w2 b (P.dec n).2 c2) f2 => asked_fin H0.out V.out SZ.out h2 f2 (⟨(P.dec n).1.1, 0, false, [], (P.dec n).1.2⟩)
  go_enter Tryz.func6, Tryz.ntmps6
  go_wp2_with fail
  generalize World.alloc (World.alloc _ _) _ = v at *
  refine CA.out.mono ?_
  rintro _ w2 ⟨rfl, c2, h2, f2⟩
  have M2 := hide ((f2.b.block _ (by rw [SZ.out]; omega) (fun e => e CG.out)).trans M1.out)
  have F2 := hide (FIN.out w2 c2 h2 f2 none 0 (Ig.nil _) (fun x hx => by cases hx))
  clear h2 f2
  clear CA FIN x0 x1 x2
  go_wp2_with (refine wpList_store_row rfl 34 _ _ rfl (w.heap.size + 1) _ rfl rfl 34 _ M2.out sizeAns rfl (by simp [Value.oneCell']) ?_)
  refine bodyPost_ret (v := .agg _) (results_cell_row Tryz.results6 _ _ (w.heap.size + 1) 34 _ (0, 0) _ rfl (setRow_heap _ _ _ _ _ _ M2.out) Tryz.underlying34 rfl sizeAns) rfl ?_
  exact F2.out _
set_option maxHeartbeats 4000000 in
set_option maxRecDepth 8000 in
theorem asked_3 (w : World) (b : Nat) (P : Po) (col : Nat → Nat) (h : Pl w b P col) (hm : P.mark + 1 ≤ 17592186044416) (n st : Int) :
    Calls Tryz.prog 6 #[.pointer (some ⟨b, 0, none⟩), .agg #[.int .i64 3, .int .i64 n, .int .i64 st], .slice none 0 0] w fun e w' => Asked w col b (.num (P.count n)) P e w' := by
  have V := hide (bt (al w (.cells #[.int .i64 3, .int .i64 n, .int .i64 st] 37)) (al _ (.cells #[.int .i64 0, .int .i64 0, .bool false, .slice none 0 0, .int .i64 0] 34)))
  have hx := (al (w.alloc (.cells #[.int .i64 3, .int .i64 n, .int .i64 st] 37)) (.cells #[.int .i64 0, .int .i64 0, .bool false, .slice none 0 0, .int .i64 0] 34)).block w.heap.size (by rw [size_alloc]; omega) |>.trans (World.alloc_heap_new w (.cells #[.int .i64 3, .int .i64 n, .int .i64 st] 37))
  have x0 := cell_of_row _ _ 0 _ _ _ hx
  have x1 := cell_of_row _ _ 1 _ _ _ hx
  have x2 := cell_of_row _ _ 2 _ _ _ hx
  have M1 := hide (World.alloc_heap_new (w.alloc (.cells #[.int .i64 3, .int .i64 n, .int .i64 st] 37)) (.cells #[.int .i64 0, .int .i64 0, .bool false, .slice none 0 0, .int .i64 0] 34))
  rw [size_alloc] at M1
  have SZ := hide (show ((w.alloc (.cells #[.int .i64 3, .int .i64 n, .int .i64 st] 37)).alloc (.cells #[.int .i64 0, .int .i64 0, .bool false, .slice none 0 0, .int .i64 0] 34)).heap.size = w.heap.size + 2 by rw [size_alloc, size_alloc])
  have HV := hide (h.keep V.out)
  have H0 := hide h
  have CG := hide (show col (w.heap.size + 1) = 0 by
    by_cases e : col (w.heap.size + 1) = 0
    · exact e
    · have := h.lt _ e; omega)
  simp only [List.getElem?_toArray, List.getElem?_cons_zero, List.getElem?_cons_succ] at x0 x1 x2
  clear h hx
  have CA := hide (Count_pl _ b P col HV.out n)
  have FIN := hide fun (w2 : World) (c2 : Nat → Nat) (h2 : Pl w2 b P c2) f2 => asked_fin H0.out V.out SZ.out h2 f2 (.num (P.count n))
  go_enter Tryz.func6, Tryz.ntmps6
  go_wp2_with fail
  generalize World.alloc (World.alloc _ _) _ = v at *
  refine CA.out.mono ?_
  rintro _ wq ⟨rfl, hwq⟩
  obtain rfl := hwq.symm
  have M2 := M1
  have F2 := hide (FIN.out _ col HV.out (Fr.refl _ _) none 0 (Ig.nil _) (fun x hx => by cases hx))
  clear CA FIN x0 x1 x2
  go_wp2_with (refine wpList_store_row rfl 34 _ _ rfl (w.heap.size + 1) _ rfl rfl 34 _ M2.out sizeAns rfl (by simp [Value.oneCell']) ?_)
  refine bodyPost_ret (v := .agg _) (results_cell_row Tryz.results6 _ _ (w.heap.size + 1) 34 _ (0, 0) _ rfl (setRow_heap _ _ _ _ _ _ M2.out) Tryz.underlying34 rfl sizeAns) rfl ?_
  exact F2.out _
set_option maxHeartbeats 4000000 in
set_option maxRecDepth 8000 in
theorem asked_4 (w : World) (b : Nat) (P : Po) (col : Nat → Nat) (h : Pl w b P col) (hm : P.mark + 1 ≤ 17592186044416) (n st : Int) :
    Calls Tryz.prog 6 #[.pointer (some ⟨b, 0, none⟩), .agg #[.int .i64 4, .int .i64 n, .int .i64 st], .slice none 0 0] w fun e w' => Asked w col b (.num (P.state n : Nat)) P e w' := by
  have V := hide (bt (al w (.cells #[.int .i64 4, .int .i64 n, .int .i64 st] 37)) (al _ (.cells #[.int .i64 0, .int .i64 0, .bool false, .slice none 0 0, .int .i64 0] 34)))
  have hx := (al (w.alloc (.cells #[.int .i64 4, .int .i64 n, .int .i64 st] 37)) (.cells #[.int .i64 0, .int .i64 0, .bool false, .slice none 0 0, .int .i64 0] 34)).block w.heap.size (by rw [size_alloc]; omega) |>.trans (World.alloc_heap_new w (.cells #[.int .i64 4, .int .i64 n, .int .i64 st] 37))
  have x0 := cell_of_row _ _ 0 _ _ _ hx
  have x1 := cell_of_row _ _ 1 _ _ _ hx
  have x2 := cell_of_row _ _ 2 _ _ _ hx
  have M1 := hide (World.alloc_heap_new (w.alloc (.cells #[.int .i64 4, .int .i64 n, .int .i64 st] 37)) (.cells #[.int .i64 0, .int .i64 0, .bool false, .slice none 0 0, .int .i64 0] 34))
  rw [size_alloc] at M1
  have SZ := hide (show ((w.alloc (.cells #[.int .i64 4, .int .i64 n, .int .i64 st] 37)).alloc (.cells #[.int .i64 0, .int .i64 0, .bool false, .slice none 0 0, .int .i64 0] 34)).heap.size = w.heap.size + 2 by rw [size_alloc, size_alloc])
  have HV := hide (h.keep V.out)
  have H0 := hide h
  have CG := hide (show col (w.heap.size + 1) = 0 by
    by_cases e : col (w.heap.size + 1) = 0
    · exact e
    · have := h.lt _ e; omega)
  simp only [List.getElem?_toArray, List.getElem?_cons_zero, List.getElem?_cons_succ] at x0 x1 x2
  clear h hx
  have CA := hide (State_pl _ b P col HV.out n)
  have FIN := hide fun (w2 : World) (c2 : Nat → Nat) (h2 : Pl w2 b P c2) f2 => asked_fin H0.out V.out SZ.out h2 f2 (.num (P.state n : Nat))
  go_enter Tryz.func6, Tryz.ntmps6
  go_wp2_with fail
  generalize World.alloc (World.alloc _ _) _ = v at *
  refine CA.out.mono ?_
  rintro _ w2 ⟨rfl, hb⟩
  have M2 := hide ((hb.block _ (by rw [SZ.out]; omega)).trans M1.out)
  have F2 := hide (FIN.out w2 col (HV.out.keep hb) (Fr.keep hb) none 0 (Ig.nil _) (fun x hx => by cases hx))
  clear hb
  clear CA FIN x0 x1 x2
  go_wp2_with (refine wpList_store_row rfl 34 _ _ rfl (w.heap.size + 1) _ rfl rfl 34 _ M2.out sizeAns rfl (by simp [Value.oneCell']) ?_)
  refine bodyPost_ret (v := .agg _) (results_cell_row Tryz.results6 _ _ (w.heap.size + 1) 34 _ (0, 0) _ rfl (setRow_heap _ _ _ _ _ _ M2.out) Tryz.underlying34 rfl sizeAns) rfl ?_
  exact F2.out _
set_option maxHeartbeats 4000000 in
set_option maxRecDepth 8000 in
theorem asked_5 (w : World) (b : Nat) (P : Po) (col : Nat → Nat) (h : Pl w b P col) (hm : P.mark + 1 ≤ 17592186044416) (n st : Int) :
    Calls Tryz.prog 6 #[.pointer (some ⟨b, 0, none⟩), .agg #[.int .i64 5, .int .i64 n, .int .i64 st], .slice none 0 0] w fun e w' => Asked w col b (.num ((P.pages n).length : Nat)) P e w' := by
  have V := hide (bt (al w (.cells #[.int .i64 5, .int .i64 n, .int .i64 st] 37)) (al _ (.cells #[.int .i64 0, .int .i64 0, .bool false, .slice none 0 0, .int .i64 0] 34)))
  have hx := (al (w.alloc (.cells #[.int .i64 5, .int .i64 n, .int .i64 st] 37)) (.cells #[.int .i64 0, .int .i64 0, .bool false, .slice none 0 0, .int .i64 0] 34)).block w.heap.size (by rw [size_alloc]; omega) |>.trans (World.alloc_heap_new w (.cells #[.int .i64 5, .int .i64 n, .int .i64 st] 37))
  have x0 := cell_of_row _ _ 0 _ _ _ hx
  have x1 := cell_of_row _ _ 1 _ _ _ hx
  have x2 := cell_of_row _ _ 2 _ _ _ hx
  have M1 := hide (World.alloc_heap_new (w.alloc (.cells #[.int .i64 5, .int .i64 n, .int .i64 st] 37)) (.cells #[.int .i64 0, .int .i64 0, .bool false, .slice none 0 0, .int .i64 0] 34))
  rw [size_alloc] at M1
  have SZ := hide (show ((w.alloc (.cells #[.int .i64 5, .int .i64 n, .int .i64 st] 37)).alloc (.cells #[.int .i64 0, .int .i64 0, .bool false, .slice none 0 0, .int .i64 0] 34)).heap.size = w.heap.size + 2 by rw [size_alloc, size_alloc])
  have HV := hide (h.keep V.out)
  have H0 := hide h
  have CG := hide (show col (w.heap.size + 1) = 0 by
    by_cases e : col (w.heap.size + 1) = 0
    · exact e
    · have := h.lt _ e; omega)
  simp only [List.getElem?_toArray, List.getElem?_cons_zero, List.getElem?_cons_succ] at x0 x1 x2
  clear h hx
  have CA := hide (Tally_any _ b P col HV.out n)
  have FIN := hide fun (w2 : World) (c2 : Nat → Nat) (h2 : Pl w2 b P c2) f2 => asked_fin H0.out V.out SZ.out h2 f2 (.num ((P.pages n).length : Nat))
  go_enter Tryz.func6, Tryz.ntmps6
  go_wp2_with fail
  generalize World.alloc (World.alloc _ _) _ = v at *
  refine CA.out.mono ?_
  rintro _ w2 ⟨rfl, hb⟩
  have M2 := hide ((hb.block _ (by rw [SZ.out]; omega)).trans M1.out)
  have F2 := hide (FIN.out w2 col (HV.out.keep hb) (Fr.keep hb) none 0 (Ig.nil _) (fun x hx => by cases hx))
  clear hb
  clear CA FIN x0 x1 x2
  go_wp2_with (refine wpList_store_row rfl 34 _ _ rfl (w.heap.size + 1) _ rfl rfl 34 _ M2.out sizeAns rfl (by simp [Value.oneCell']) ?_)
  refine bodyPost_ret (v := .agg _) (results_cell_row Tryz.results6 _ _ (w.heap.size + 1) 34 _ (0, 0) _ rfl (setRow_heap _ _ _ _ _ _ M2.out) Tryz.underlying34 rfl sizeAns) rfl ?_
  exact F2.out _
set_option maxHeartbeats 4000000 in
set_option maxRecDepth 8000 in
theorem asked_6 (w : World) (b : Nat) (P : Po) (col : Nat → Nat) (h : Pl w b P col) (hm : P.mark + 1 ≤ 17592186044416) (n st : Int) :
    Calls Tryz.prog 6 #[.pointer (some ⟨b, 0, none⟩), .agg #[.int .i64 6, .int .i64 n, .int .i64 st], .slice none 0 0] w fun e w' => Asked w col b (⟨0, 0, false, wl (P.pages n) st, 0⟩) P e w' := by
  have V := hide (bt (al w (.cells #[.int .i64 6, .int .i64 n, .int .i64 st] 37)) (al _ (.cells #[.int .i64 0, .int .i64 0, .bool false, .slice none 0 0, .int .i64 0] 34)))
  have hx := (al (w.alloc (.cells #[.int .i64 6, .int .i64 n, .int .i64 st] 37)) (.cells #[.int .i64 0, .int .i64 0, .bool false, .slice none 0 0, .int .i64 0] 34)).block w.heap.size (by rw [size_alloc]; omega) |>.trans (World.alloc_heap_new w (.cells #[.int .i64 6, .int .i64 n, .int .i64 st] 37))
  have x0 := cell_of_row _ _ 0 _ _ _ hx
  have x1 := cell_of_row _ _ 1 _ _ _ hx
  have x2 := cell_of_row _ _ 2 _ _ _ hx
  have M1 := hide (World.alloc_heap_new (w.alloc (.cells #[.int .i64 6, .int .i64 n, .int .i64 st] 37)) (.cells #[.int .i64 0, .int .i64 0, .bool false, .slice none 0 0, .int .i64 0] 34))
  rw [size_alloc] at M1
  have SZ := hide (show ((w.alloc (.cells #[.int .i64 6, .int .i64 n, .int .i64 st] 37)).alloc (.cells #[.int .i64 0, .int .i64 0, .bool false, .slice none 0 0, .int .i64 0] 34)).heap.size = w.heap.size + 2 by rw [size_alloc, size_alloc])
  have HV := hide (h.keep V.out)
  have H0 := hide h
  have CG := hide (show col (w.heap.size + 1) = 0 by
    by_cases e : col (w.heap.size + 1) = 0
    · exact e
    · have := h.lt _ e; omega)
  simp only [List.getElem?_toArray, List.getElem?_cons_zero, List.getElem?_cons_succ] at x0 x1 x2
  clear h hx
  have CA := hide (walked_any _ b P col HV.out n st)
  have FIN := hide fun (w2 : World) (c2 : Nat → Nat) (h2 : Pl w2 b P c2) f2 => asked_fin H0.out V.out SZ.out h2 f2 (⟨0, 0, false, wl (P.pages n) st, 0⟩)
  go_enter Tryz.func6, Tryz.ntmps6
  go_wp2_with fail
  generalize World.alloc (World.alloc _ _) _ = v at *
  refine CA.out.mono ?_
  rintro _ w2 ⟨a2, d2, rfl, hI⟩
  have M2 := hide ((hI.b.block _ (by rw [SZ.out]; omega)).trans M1.out)
  have F2 := hide (FIN.out w2 col (HV.out.keep hI.b) (Fr.keep hI.b) a2 d2 hI.r (own_col HV.out hI))
  clear hI
  clear CA FIN x0 x1 x2
  go_wp2_with (refine wpList_store_row rfl 34 _ _ rfl (w.heap.size + 1) _ rfl rfl 34 _ M2.out sizeAns rfl (by simp [Value.oneCell']) ?_)
  refine bodyPost_ret (v := .agg _) (results_cell_row Tryz.results6 _ _ (w.heap.size + 1) 34 _ (0, 0) _ rfl (setRow_heap _ _ _ _ _ _ M2.out) Tryz.underlying34 rfl sizeAns) rfl ?_
  exact F2.out _
set_option maxHeartbeats 4000000 in
set_option maxRecDepth 8000 in
theorem asked_7 (w : World) (b : Nat) (P : Po) (col : Nat → Nat) (h : Pl w b P col) (hm : P.mark + 1 ≤ 17592186044416) (n st : Int) :
    Calls Tryz.prog 6 #[.pointer (some ⟨b, 0, none⟩), .agg #[.int .i64 7, .int .i64 n, .int .i64 st], .slice none 0 0] w fun e w' => Asked w col b (⟨0, 0, false, P.counts, 0⟩) P e w' := by
  have V := hide (bt (al w (.cells #[.int .i64 7, .int .i64 n, .int .i64 st] 37)) (al _ (.cells #[.int .i64 0, .int .i64 0, .bool false, .slice none 0 0, .int .i64 0] 34)))
  have hx := (al (w.alloc (.cells #[.int .i64 7, .int .i64 n, .int .i64 st] 37)) (.cells #[.int .i64 0, .int .i64 0, .bool false, .slice none 0 0, .int .i64 0] 34)).block w.heap.size (by rw [size_alloc]; omega) |>.trans (World.alloc_heap_new w (.cells #[.int .i64 7, .int .i64 n, .int .i64 st] 37))
  have x0 := cell_of_row _ _ 0 _ _ _ hx
  have x1 := cell_of_row _ _ 1 _ _ _ hx
  have x2 := cell_of_row _ _ 2 _ _ _ hx
  have M1 := hide (World.alloc_heap_new (w.alloc (.cells #[.int .i64 7, .int .i64 n, .int .i64 st] 37)) (.cells #[.int .i64 0, .int .i64 0, .bool false, .slice none 0 0, .int .i64 0] 34))
  rw [size_alloc] at M1
  have SZ := hide (show ((w.alloc (.cells #[.int .i64 7, .int .i64 n, .int .i64 st] 37)).alloc (.cells #[.int .i64 0, .int .i64 0, .bool false, .slice none 0 0, .int .i64 0] 34)).heap.size = w.heap.size + 2 by rw [size_alloc, size_alloc])
  have HV := hide (h.keep V.out)
  have H0 := hide h
  have CG := hide (show col (w.heap.size + 1) = 0 by
    by_cases e : col (w.heap.size + 1) = 0
    · exact e
    · have := h.lt _ e; omega)
  simp only [List.getElem?_toArray, List.getElem?_cons_zero, List.getElem?_cons_succ] at x0 x1 x2
  clear h hx
  have CA := hide (Counts_any _ b P col HV.out)
  have FIN := hide fun (w2 : World) (c2 : Nat → Nat) (h2 : Pl w2 b P c2) f2 => asked_fin H0.out V.out SZ.out h2 f2 (⟨0, 0, false, P.counts, 0⟩)
  go_enter Tryz.func6, Tryz.ntmps6
  go_wp2_with fail
  generalize World.alloc (World.alloc _ _) _ = v at *
  refine CA.out.mono ?_
  rintro _ w2 ⟨a2, d2, rfl, hI⟩
  have M2 := hide ((hI.b.block _ (by rw [SZ.out]; omega)).trans M1.out)
  have F2 := hide (FIN.out w2 col (HV.out.keep hI.b) (Fr.keep hI.b) a2 d2 hI.r (own_col HV.out hI))
  clear hI
  clear CA FIN x0 x1 x2
  go_wp2_with (refine wpList_store_row rfl 34 _ _ rfl (w.heap.size + 1) _ rfl rfl 34 _ M2.out sizeAns rfl (by simp [Value.oneCell']) ?_)
  refine bodyPost_ret (v := .agg _) (results_cell_row Tryz.results6 _ _ (w.heap.size + 1) 34 _ (0, 0) _ rfl (setRow_heap _ _ _ _ _ _ M2.out) Tryz.underlying34 rfl sizeAns) rfl ?_
  exact F2.out _
set_option maxHeartbeats 4000000 in
set_option maxRecDepth 8000 in
theorem asked_8 (w : World) (b : Nat) (P : Po) (col : Nat → Nat) (h : Pl w b P col) (hm : P.mark + 1 ≤ 17592186044416) (n st : Int) :
    Calls Tryz.prog 6 #[.pointer (some ⟨b, 0, none⟩), .agg #[.int .i64 8, .int .i64 n, .int .i64 st], .slice none 0 0] w fun e w' => Asked w col b (.num (P.mark : Nat)) P e w' := by
  have V := hide (bt (al w (.cells #[.int .i64 8, .int .i64 n, .int .i64 st] 37)) (al _ (.cells #[.int .i64 0, .int .i64 0, .bool false, .slice none 0 0, .int .i64 0] 34)))
  have hx := (al (w.alloc (.cells #[.int .i64 8, .int .i64 n, .int .i64 st] 37)) (.cells #[.int .i64 0, .int .i64 0, .bool false, .slice none 0 0, .int .i64 0] 34)).block w.heap.size (by rw [size_alloc]; omega) |>.trans (World.alloc_heap_new w (.cells #[.int .i64 8, .int .i64 n, .int .i64 st] 37))
  have x0 := cell_of_row _ _ 0 _ _ _ hx
  have x1 := cell_of_row _ _ 1 _ _ _ hx
  have x2 := cell_of_row _ _ 2 _ _ _ hx
  have M1 := hide (World.alloc_heap_new (w.alloc (.cells #[.int .i64 8, .int .i64 n, .int .i64 st] 37)) (.cells #[.int .i64 0, .int .i64 0, .bool false, .slice none 0 0, .int .i64 0] 34))
  rw [size_alloc] at M1
  have SZ := hide (show ((w.alloc (.cells #[.int .i64 8, .int .i64 n, .int .i64 st] 37)).alloc (.cells #[.int .i64 0, .int .i64 0, .bool false, .slice none 0 0, .int .i64 0] 34)).heap.size = w.heap.size + 2 by rw [size_alloc, size_alloc])
  have HV := hide (h.keep V.out)
  have H0 := hide h
  have CG := hide (show col (w.heap.size + 1) = 0 by
    by_cases e : col (w.heap.size + 1) = 0
    · exact e
    · have := h.lt _ e; omega)
  simp only [List.getElem?_toArray, List.getElem?_cons_zero, List.getElem?_cons_succ] at x0 x1 x2
  clear h hx
  have CA := hide (Mark_pl _ b P col HV.out (by omega))
  have FIN := hide fun (w2 : World) (c2 : Nat → Nat) (h2 : Pl w2 b P c2) f2 => asked_fin H0.out V.out SZ.out h2 f2 (.num (P.mark : Nat))
  go_enter Tryz.func6, Tryz.ntmps6
  go_wp2_with fail
  generalize World.alloc (World.alloc _ _) _ = v at *
  refine CA.out.mono ?_
  rintro _ w2 ⟨rfl, hb⟩
  have M2 := hide ((hb.block _ (by rw [SZ.out]; omega)).trans M1.out)
  have F2 := hide (FIN.out w2 col (HV.out.keep hb) (Fr.keep hb) none 0 (Ig.nil _) (fun x hx => by cases hx))
  clear hb
  clear CA FIN x0 x1 x2
  go_wp2_with (refine wpList_store_row rfl 34 _ _ rfl (w.heap.size + 1) _ rfl rfl 34 _ M2.out sizeAns rfl (by simp [Value.oneCell']) ?_)
  refine bodyPost_ret (v := .agg _) (results_cell_row Tryz.results6 _ _ (w.heap.size + 1) 34 _ (0, 0) _ rfl (setRow_heap _ _ _ _ _ _ M2.out) Tryz.underlying34 rfl sizeAns) rfl ?_
  exact F2.out _
set_option maxHeartbeats 4000000 in
set_option maxRecDepth 8000 in
theorem asked_9 (w : World) (b : Nat) (P : Po) (col : Nat → Nat) (h : Pl w b P col) (hm : P.mark + 1 ≤ 17592186044416) (n st : Int) :
    Calls Tryz.prog 6 #[.pointer (some ⟨b, 0, none⟩), .agg #[.int .i64 9, .int .i64 n, .int .i64 st], .slice none 0 0] w fun e w' => Asked w col b (⟨0, 0, P.canUndo n, [], 0⟩) (P.undo n) e w' := by
  have V := hide (bt (al w (.cells #[.int .i64 9, .int .i64 n, .int .i64 st] 37)) (al _ (.cells #[.int .i64 0, .int .i64 0, .bool false, .slice none 0 0, .int .i64 0] 34)))
  have hx := (al (w.alloc (.cells #[.int .i64 9, .int .i64 n, .int .i64 st] 37)) (.cells #[.int .i64 0, .int .i64 0, .bool false, .slice none 0 0, .int .i64 0] 34)).block w.heap.size (by rw [size_alloc]; omega) |>.trans (World.alloc_heap_new w (.cells #[.int .i64 9, .int .i64 n, .int .i64 st] 37))
  have x0 := cell_of_row _ _ 0 _ _ _ hx
  have x1 := cell_of_row _ _ 1 _ _ _ hx
  have x2 := cell_of_row _ _ 2 _ _ _ hx
  have M1 := hide (World.alloc_heap_new (w.alloc (.cells #[.int .i64 9, .int .i64 n, .int .i64 st] 37)) (.cells #[.int .i64 0, .int .i64 0, .bool false, .slice none 0 0, .int .i64 0] 34))
  rw [size_alloc] at M1
  have SZ := hide (show ((w.alloc (.cells #[.int .i64 9, .int .i64 n, .int .i64 st] 37)).alloc (.cells #[.int .i64 0, .int .i64 0, .bool false, .slice none 0 0, .int .i64 0] 34)).heap.size = w.heap.size + 2 by rw [size_alloc, size_alloc])
  have HV := hide (h.keep V.out)
  have H0 := hide h
  have CG := hide (show col (w.heap.size + 1) = 0 by
    by_cases e : col (w.heap.size + 1) = 0
    · exact e
    · have := h.lt _ e; omega)
  simp only [List.getElem?_toArray, List.getElem?_cons_zero, List.getElem?_cons_succ] at x0 x1 x2
  clear h hx
  have CA := hide (Undo_any _ b P col HV.out n (by omega))
  have FIN := hide fun (w2 : World) (c2 : Nat → Nat) (h2 : Pl w2 b (P.undo n) c2) f2 => asked_fin H0.out V.out SZ.out h2 f2 (⟨0, 0, P.canUndo n, [], 0⟩)
  go_enter Tryz.func6, Tryz.ntmps6
  go_wp2_with fail
  generalize World.alloc (World.alloc _ _) _ = v at *
  refine CA.out.mono ?_
  rintro _ w2 ⟨rfl, c2, h2, f2⟩
  have M2 := hide ((f2.b.block _ (by rw [SZ.out]; omega) (fun e => e CG.out)).trans M1.out)
  have F2 := hide (FIN.out w2 c2 h2 f2 none 0 (Ig.nil _) (fun x hx => by cases hx))
  clear h2 f2
  clear CA FIN x0 x1 x2
  go_wp2_with (refine wpList_store_row rfl 34 _ _ rfl (w.heap.size + 1) _ rfl rfl 34 _ M2.out sizeAns rfl (by simp [Value.oneCell']) ?_)
  refine bodyPost_ret (v := .agg _) (results_cell_row Tryz.results6 _ _ (w.heap.size + 1) 34 _ (0, 0) _ rfl (setRow_heap _ _ _ _ _ _ M2.out) Tryz.underlying34 rfl sizeAns) rfl ?_
  exact F2.out _
set_option maxHeartbeats 4000000 in
set_option maxRecDepth 8000 in
theorem asked_10 (w : World) (b : Nat) (P : Po) (col : Nat → Nat) (h : Pl w b P col) (hm : P.mark + 1 ≤ 17592186044416) (n st : Int) :
    Calls Tryz.prog 6 #[.pointer (some ⟨b, 0, none⟩), .agg #[.int .i64 10, .int .i64 n, .int .i64 st], .slice none 0 0] w fun e w' => Asked w col b (.num 0) P.settle e w' := by
  have V := hide (bt (al w (.cells #[.int .i64 10, .int .i64 n, .int .i64 st] 37)) (al _ (.cells #[.int .i64 0, .int .i64 0, .bool false, .slice none 0 0, .int .i64 0] 34)))
  have hx := (al (w.alloc (.cells #[.int .i64 10, .int .i64 n, .int .i64 st] 37)) (.cells #[.int .i64 0, .int .i64 0, .bool false, .slice none 0 0, .int .i64 0] 34)).block w.heap.size (by rw [size_alloc]; omega) |>.trans (World.alloc_heap_new w (.cells #[.int .i64 10, .int .i64 n, .int .i64 st] 37))
  have x0 := cell_of_row _ _ 0 _ _ _ hx
  have x1 := cell_of_row _ _ 1 _ _ _ hx
  have x2 := cell_of_row _ _ 2 _ _ _ hx
  have M1 := hide (World.alloc_heap_new (w.alloc (.cells #[.int .i64 10, .int .i64 n, .int .i64 st] 37)) (.cells #[.int .i64 0, .int .i64 0, .bool false, .slice none 0 0, .int .i64 0] 34))
  rw [size_alloc] at M1
  have SZ := hide (show ((w.alloc (.cells #[.int .i64 10, .int .i64 n, .int .i64 st] 37)).alloc (.cells #[.int .i64 0, .int .i64 0, .bool false, .slice none 0 0, .int .i64 0] 34)).heap.size = w.heap.size + 2 by rw [size_alloc, size_alloc])
  have HV := hide (h.keep V.out)
  have H0 := hide h
  have CG := hide (show col (w.heap.size + 1) = 0 by
    by_cases e : col (w.heap.size + 1) = 0
    · exact e
    · have := h.lt _ e; omega)
  simp only [List.getElem?_toArray, List.getElem?_cons_zero, List.getElem?_cons_succ] at x0 x1 x2
  clear h hx
  have CA := hide (Settle_any _ b P col HV.out (by omega))
  have FIN := hide fun (w2 : World) (c2 : Nat → Nat) (h2 : Pl w2 b P.settle c2) f2 => asked_fin H0.out V.out SZ.out h2 f2 (.num 0)
  go_enter Tryz.func6, Tryz.ntmps6
  go_wp2_with fail
  generalize World.alloc (World.alloc _ _) _ = v at *
  refine CA.out.mono ?_
  rintro _ w2 ⟨rfl, c2, h2, f2⟩
  have M2 := hide ((f2.b.block _ (by rw [SZ.out]; omega) (fun e => e CG.out)).trans M1.out)
  have F2 := hide (FIN.out w2 c2 h2 f2 none 0 (Ig.nil _) (fun x hx => by cases hx))
  clear h2 f2
  clear CA FIN x0 x1 x2
  go_wp2_with (refine wpList_store_row rfl 34 _ _ rfl (w.heap.size + 1) _ rfl rfl 34 _ M2.out sizeAns rfl (by simp [Value.oneCell']) ?_)
  refine bodyPost_ret (v := .agg _) (results_cell_row Tryz.results6 _ _ (w.heap.size + 1) 34 _ (0, 0) _ rfl (setRow_heap _ _ _ _ _ _ M2.out) Tryz.underlying34 rfl sizeAns) rfl ?_
  exact F2.out _
set_option maxHeartbeats 4000000 in
set_option maxRecDepth 8000 in
theorem asked_11 (w : World) (b : Nat) (P : Po) (col : Nat → Nat) (h : Pl w b P col) (hm : P.mark + 1 ≤ 17592186044416) (n st : Int) :
    Calls Tryz.prog 6 #[.pointer (some ⟨b, 0, none⟩), .agg #[.int .i64 11, .int .i64 n, .int .i64 st], .slice none 0 0] w fun e w' => Asked w col b (⟨(P.pg.length : Nat), P.rf, false, [], 0⟩) P e w' := by
  have V := hide (bt (al w (.cells #[.int .i64 11, .int .i64 n, .int .i64 st] 37)) (al _ (.cells #[.int .i64 0, .int .i64 0, .bool false, .slice none 0 0, .int .i64 0] 34)))
  have hx := (al (w.alloc (.cells #[.int .i64 11, .int .i64 n, .int .i64 st] 37)) (.cells #[.int .i64 0, .int .i64 0, .bool false, .slice none 0 0, .int .i64 0] 34)).block w.heap.size (by rw [size_alloc]; omega) |>.trans (World.alloc_heap_new w (.cells #[.int .i64 11, .int .i64 n, .int .i64 st] 37))
  have x0 := cell_of_row _ _ 0 _ _ _ hx
  have x1 := cell_of_row _ _ 1 _ _ _ hx
  have x2 := cell_of_row _ _ 2 _ _ _ hx
  have M1 := hide (World.alloc_heap_new (w.alloc (.cells #[.int .i64 11, .int .i64 n, .int .i64 st] 37)) (.cells #[.int .i64 0, .int .i64 0, .bool false, .slice none 0 0, .int .i64 0] 34))
  rw [size_alloc] at M1
  have SZ := hide (show ((w.alloc (.cells #[.int .i64 11, .int .i64 n, .int .i64 st] 37)).alloc (.cells #[.int .i64 0, .int .i64 0, .bool false, .slice none 0 0, .int .i64 0] 34)).heap.size = w.heap.size + 2 by rw [size_alloc, size_alloc])
  have HV := hide (h.keep V.out)
  have H0 := hide h
  have CG := hide (show col (w.heap.size + 1) = 0 by
    by_cases e : col (w.heap.size + 1) = 0
    · exact e
    · have := h.lt _ e; omega)
  simp only [List.getElem?_toArray, List.getElem?_cons_zero, List.getElem?_cons_succ] at x0 x1 x2
  clear h hx
  have CA := hide (Len_pl _ b P col HV.out)
  have CB := hide (Refs_pl _ b P col HV.out)
  have FIN := hide fun (w2 : World) (c2 : Nat → Nat) (h2 : Pl w2 b P c2) f2 => asked_fin H0.out V.out SZ.out h2 f2 (⟨(P.pg.length : Nat), P.rf, false, [], 0⟩)
  go_enter Tryz.func6, Tryz.ntmps6
  go_wp2_with fail
  generalize World.alloc (World.alloc _ _) _ = v at *
  refine CA.out.mono ?_
  rintro _ wq ⟨rfl, hwq⟩
  obtain rfl := hwq.symm
  go_wp2_with fail
  refine CB.out.mono ?_
  rintro _ wq ⟨rfl, hwq⟩
  obtain rfl := hwq.symm
  have M2 := M1
  have F2 := hide (FIN.out _ col HV.out (Fr.refl _ _) none 0 (Ig.nil _) (fun x hx => by cases hx))
  clear CA FIN x0 x1 x2
  go_wp2_with (refine wpList_store_row rfl 34 _ _ rfl (w.heap.size + 1) _ rfl rfl 34 _ M2.out sizeAns rfl (by simp [Value.oneCell']) ?_)
  refine bodyPost_ret (v := .agg _) (results_cell_row Tryz.results6 _ _ (w.heap.size + 1) 34 _ (0, 0) _ rfl (setRow_heap _ _ _ _ _ _ M2.out) Tryz.underlying34 rfl sizeAns) rfl ?_
  exact F2.out _
set_option maxHeartbeats 4000000 in
set_option maxRecDepth 8000 in
theorem asked_12 (w : World) (b : Nat) (P : Po) (col : Nat → Nat) (h : Pl w b P col) (hm : P.mark + 1 ≤ 17592186044416) (n st : Int) (k : Int) (hk : ∀ i : Int, 0 ≤ i → i ≤ 11 → k ≠ i) :
    Calls Tryz.prog 6 #[.pointer (some ⟨b, 0, none⟩), .agg #[.int .i64 k, .int .i64 n, .int .i64 st], .slice none 0 0] w fun e w' => Asked w col b (⟨0, 0, P.canUndo (-1), [], 0⟩) (P.undo (-1)) e w' := by
  have V := hide (bt (al w (.cells #[.int .i64 k, .int .i64 n, .int .i64 st] 37)) (al _ (.cells #[.int .i64 0, .int .i64 0, .bool false, .slice none 0 0, .int .i64 0] 34)))
  have hx := (al (w.alloc (.cells #[.int .i64 k, .int .i64 n, .int .i64 st] 37)) (.cells #[.int .i64 0, .int .i64 0, .bool false, .slice none 0 0, .int .i64 0] 34)).block w.heap.size (by rw [size_alloc]; omega) |>.trans (World.alloc_heap_new w (.cells #[.int .i64 k, .int .i64 n, .int .i64 st] 37))
  have x0 := cell_of_row _ _ 0 _ _ _ hx
  have x1 := cell_of_row _ _ 1 _ _ _ hx
  have x2 := cell_of_row _ _ 2 _ _ _ hx
  have M1 := hide (World.alloc_heap_new (w.alloc (.cells #[.int .i64 k, .int .i64 n, .int .i64 st] 37)) (.cells #[.int .i64 0, .int .i64 0, .bool false, .slice none 0 0, .int .i64 0] 34))
  rw [size_alloc] at M1
  have SZ := hide (show ((w.alloc (.cells #[.int .i64 k, .int .i64 n, .int .i64 st] 37)).alloc (.cells #[.int .i64 0, .int .i64 0, .bool false, .slice none 0 0, .int .i64 0] 34)).heap.size = w.heap.size + 2 by rw [size_alloc, size_alloc])
  have HV := hide (h.keep V.out)
  have H0 := hide h
  have CG := hide (show col (w.heap.size + 1) = 0 by
    by_cases e : col (w.heap.size + 1) = 0
    · exact e
    · have := h.lt _ e; omega)
  simp only [List.getElem?_toArray, List.getElem?_cons_zero, List.getElem?_cons_succ] at x0 x1 x2
  clear h hx
  have AG := hide fun (W : World) => ago_none W n
  have q0 : (k == 0) = false := by simp [hk 0 (by decide) (by decide)]
  have q1 : (k == 1) = false := by simp [hk 1 (by decide) (by decide)]
  have q2 : (k == 2) = false := by simp [hk 2 (by decide) (by decide)]
  have q3 : (k == 3) = false := by simp [hk 3 (by decide) (by decide)]
  have q4 : (k == 4) = false := by simp [hk 4 (by decide) (by decide)]
  have q5 : (k == 5) = false := by simp [hk 5 (by decide) (by decide)]
  have q6 : (k == 6) = false := by simp [hk 6 (by decide) (by decide)]
  have q7 : (k == 7) = false := by simp [hk 7 (by decide) (by decide)]
  have q8 : (k == 8) = false := by simp [hk 8 (by decide) (by decide)]
  have q9 : (k == 9) = false := by simp [hk 9 (by decide) (by decide)]
  have q10 : (k == 10) = false := by simp [hk 10 (by decide) (by decide)]
  have q11 : (k == 11) = false := by simp [hk 11 (by decide) (by decide)]
  have CA := hide (Undo_any _ b P col HV.out (-1) (by omega))
  have FIN := hide fun (w2 : World) (c2 : Nat → Nat) (h2 : Pl w2 b (P.undo (-1)) c2) f2 => asked_fin H0.out V.out SZ.out h2 f2 (⟨0, 0, P.canUndo (-1), [], 0⟩)
  go_enter Tryz.func6, Tryz.ntmps6
  go_wp2_with fail
  refine (AG.out _).mono ?_
  rintro _ wq ⟨rfl, hwq⟩
  obtain rfl := hwq.symm
  go_wp2_with fail
  generalize World.alloc (World.alloc _ _) _ = v at *
  refine CA.out.mono ?_
  rintro _ w2 ⟨rfl, c2, h2, f2⟩
  have M2 := hide ((f2.b.block _ (by rw [SZ.out]; omega) (fun e => e CG.out)).trans M1.out)
  have F2 := hide (FIN.out w2 c2 h2 f2 none 0 (Ig.nil _) (fun x hx => by cases hx))
  clear h2 f2
  clear CA FIN x0 x1 x2
  go_wp2_with (refine wpList_store_row rfl 34 _ _ rfl (w.heap.size + 1) _ rfl rfl 34 _ M2.out sizeAns rfl (by simp [Value.oneCell']) ?_)
  refine bodyPost_ret (v := .agg _) (results_cell_row Tryz.results6 _ _ (w.heap.size + 1) 34 _ (0, 0) _ rfl (setRow_heap _ _ _ _ _ _ M2.out) Tryz.underlying34 rfl sizeAns) rfl ?_
  exact F2.out _
theorem asked_any (w : World) (b : Nat) (P : Po) (col : Nat → Nat) (h : Pl w b P col) (hm : P.mark + 1 ≤ 17592186044416) (o : Ov) :
    Calls Tryz.prog 6 #[.pointer (some ⟨b, 0, none⟩), .agg #[.int .i64 o.1, .int .i64 o.2.1, .int .i64 o.2.2], .slice none 0 0] w fun e w' => Asked w col b (P.ask o).1 (P.ask o).2 e w' := by
  obtain ⟨k, n, st⟩ := o
  unfold Po.ask
  simp only
  by_cases h0 : k = 0
  · rw [if_pos h0]; subst h0; exact asked_0 w b P col h hm n st
  rw [if_neg h0]
  by_cases h1 : k = 1
  · rw [if_pos h1]; subst h1; exact asked_1 w b P col h hm n st
  rw [if_neg h1]
  by_cases h2 : k = 2
  · rw [if_pos h2]; subst h2; exact asked_2 w b P col h hm n st
  rw [if_neg h2]
  by_cases h3 : k = 3
  · rw [if_pos h3]; subst h3; exact asked_3 w b P col h hm n st
  rw [if_neg h3]
  by_cases h4 : k = 4
  · rw [if_pos h4]; subst h4; exact asked_4 w b P col h hm n st
  rw [if_neg h4]
  by_cases h5 : k = 5
  · rw [if_pos h5]; subst h5; exact asked_5 w b P col h hm n st
  rw [if_neg h5]
  by_cases h6 : k = 6
  · rw [if_pos h6]; subst h6; exact asked_6 w b P col h hm n st
  rw [if_neg h6]
  by_cases h7 : k = 7
  · rw [if_pos h7]; subst h7; exact asked_7 w b P col h hm n st
  rw [if_neg h7]
  by_cases h8 : k = 8
  · rw [if_pos h8]; subst h8; exact asked_8 w b P col h hm n st
  rw [if_neg h8]
  by_cases h9 : k = 9
  · rw [if_pos h9]; subst h9; exact asked_9 w b P col h hm n st
  rw [if_neg h9]
  by_cases h10 : k = 10
  · rw [if_pos h10]; subst h10; exact asked_10 w b P col h hm n st
  rw [if_neg h10]
  by_cases h11 : k = 11
  · rw [if_pos h11]; subst h11; exact asked_11 w b P col h hm n st
  rw [if_neg h11]
  exact asked_12 w b P col h hm n st k (fun i i0 i1 e => by omega)
end Go.Proofs.YtceeeofkigkpkaaGreat
