import Derived.Test.YtbobnfjbbablkabZM
namespace Go.Proofs.Ytbobnfjbbablkab
open Go.RowKit

def splitL (r : Rg) (k : List Nat) : Rg := meet r ⟨[], k, false⟩
def splitH (r : Rg) (k : List Nat) : Rg := meet r ⟨k, [], true⟩
theorem six {w : World} {g : Nat} {a b c : Value} {t : TypeId} (h : w.heap[g]? = some (.cells #[a, b, c] t (0, 0))) : (w.cell? ⟨g, 0, none⟩ = some a ∧ w.cell? ⟨g, 1, none⟩ = some b ∧ w.cell? ⟨g, 2, none⟩ = some c) ∧ w.frozen? ⟨g, 0, none⟩ = false ∧ w.frozen? ⟨g, 1, none⟩ = false ∧ w.frozen? ⟨g, 2, none⟩ = false :=
  ⟨row3_cells h, frozen_of_row _ _ _ _ _ h, frozen_of_row _ _ _ _ _ h, frozen_of_row _ _ _ _ _ h⟩
/-- the blocks of Split -/
structure Pk (w : World) (rc : Array Value) (W : World) : Prop where
  m0 : W.heap[w.heap.size]? = some (.cells rc 24 (0, 0))
  m1 : W.heap[w.heap.size + 1]? = some (.cells #[.slice none 0 0, .slice none 0 0, .bool false] 24 (0, 0))
  m2 : W.heap[w.heap.size + 1 + 1]? = some (.cells #[.slice none 0 0, .slice none 0 0, .bool false] 24 (0, 0))
  b : Below w.heap.size w W
  s : w.heap.size + 3 ≤ W.heap.size
theorem Pk.keep {w W W' : World} {rc : Array Value} (h : Pk w rc W) (hb : Below W.heap.size W W') : Pk w rc W' := by
  obtain ⟨h1, h2, h3, h4, h5⟩ := h
  exact ⟨(hb.block _ (by omega)).trans h1, (hb.block _ (by omega)).trans h2, (hb.block _ (by omega)).trans h3, bt h4 hb, Nat.le_trans h5 hb.size⟩
theorem Pk.of {w W : World} {rc : Array Value} (h : W.heap[w.heap.size]? = some (.cells rc 24 (0, 0)) ∧ W.heap[w.heap.size + 1]? = some (.cells #[.slice none 0 0, .slice none 0 0, .bool false] 24 (0, 0)) ∧ W.heap[w.heap.size + 2]? = some (.cells #[.slice none 0 0, .slice none 0 0, .bool false] 24 (0, 0)) ∧ Below w.heap.size w W ∧ w.heap.size + 3 ≤ W.heap.size) : Pk w rc W := ⟨h.1, h.2.1, h.2.2.1, h.2.2.2.1, h.2.2.2.2⟩
theorem skip_set {w : World} {p a : Addr} (h : p.block ≠ a.block) (v : Value) : (w.setCell p v).cell? a = w.cell? a := World.cell?_of_block (w := w) (Below.heap_setCell _ _ _ _ (fun e => h e.symm))
theorem three_set {w : World} {g k : Nat} {a b c : Value} (h : w.cell? ⟨g, 0, none⟩ = some a ∧ w.cell? ⟨g, 1, none⟩ = some b ∧ w.cell? ⟨g, 2, none⟩ = some c) (hn : k ≠ g) (x y z : Value) : (((w.setCell ⟨k, 0, none⟩ x).setCell ⟨k, 1, none⟩ y).setCell ⟨k, 2, none⟩ z).cell? ⟨g, 0, none⟩ = some a ∧ (((w.setCell ⟨k, 0, none⟩ x).setCell ⟨k, 1, none⟩ y).setCell ⟨k, 2, none⟩ z).cell? ⟨g, 1, none⟩ = some b ∧ (((w.setCell ⟨k, 0, none⟩ x).setCell ⟨k, 1, none⟩ y).setCell ⟨k, 2, none⟩ z).cell? ⟨g, 2, none⟩ = some c := by
  refine ⟨?_, ?_, ?_⟩
  · rw [skip_set hn, skip_set hn, skip_set hn]; exact h.1
  · rw [skip_set hn, skip_set hn, skip_set hn]; exact h.2.1
  · rw [skip_set hn, skip_set hn, skip_set hn]; exact h.2.2
theorem set3_heap {w : World} {g : Nat} {a b c : Value} {t : TypeId} (h : w.heap[g]? = some (.cells #[a, b, c] t (0, 0))) (x y z : Value) : (((w.setCell ⟨g, 0, none⟩ x).setCell ⟨g, 1, none⟩ y).setCell ⟨g, 2, none⟩ z).heap[g]? = some (.cells #[x, y, z] t (0, 0)) :=
  heap_setCell_same _ g 2 _ _ _ (heap_setCell_same _ g 1 _ _ _ (heap_setCell_same _ g 0 _ _ _ h))
theorem set3_other {w : World} {g k : Nat} (hn : g ≠ k) (x y z : Value) : (((w.setCell ⟨g, 0, none⟩ x).setCell ⟨g, 1, none⟩ y).setCell ⟨g, 2, none⟩ z).heap[k]? = w.heap[k]? := by
  rw [Below.heap_setCell _ _ _ _ (fun e => hn e.symm), Below.heap_setCell _ _ _ _ (fun e => hn e.symm), Below.heap_setCell _ _ _ _ (fun e => hn e.symm)]
theorem But.set3 {S : Nat → Prop} {a w : World} (h : But S a w) {g : Nat} (hg : S g) (x y z : Value) : But S a (((w.setCell ⟨g, 0, none⟩ x).setCell ⟨g, 1, none⟩ y).setCell ⟨g, 2, none⟩ z) :=
  ((h.setCell (p := ⟨g, 0, none⟩) (fun _ => hg) x).setCell (p := ⟨g, 1, none⟩) (fun _ => hg) y).setCell (p := ⟨g, 2, none⟩) (fun _ => hg) z
theorem res_cell_cell {P : Program} {fn : Func} {p q : Tmp} {ty : TypeId} (h : fn.results = #[.cell p ty, .cell q ty]) (tmps : Array Value) (w : World) (g k : Nat) (t : TypeId) (cs ds : Array Value) (fr : Nat × Nat) (d : TypeDesc)
    (hp : tmps.getD p undef = .pointer (some ⟨g, 0, none⟩)) (hq : tmps.getD q undef = .pointer (some ⟨k, 0, none⟩)) (hg : w.heap[g]? = some (.cells cs t fr)) (hk : w.heap[k]? = some (.cells ds t fr))
    (hu : P.underlying ty = some d) (hd : (match d with | .struct _ | .array _ _ => true | _ => false) = true) (hi : (P.info? ty).map (·.size) = some cs.size) (hi2 : (P.info? ty).map (·.size) = some ds.size) :
    (results fn tmps).run P w = .ok (.tuple #[.agg cs, .agg ds]) w := by
  have hp' : tmps[p]?.getD undef = .pointer (some ⟨g, 0, none⟩) := by simpa using hp
  have hq' : tmps[q]?.getD undef = .pointer (some ⟨k, 0, none⟩) := by simpa using hq
  simp [results, h, hp', hq', asAddr, run_loadVar_row w g t ty cs fr d hg hu hd hi, run_loadVar_row w k t ty ds fr d hk hu hd hi2]
set_option maxRecDepth 100000 in
set_option maxHeartbeats 6400000 in
theorem Split_any (w : World) (r : Rv) (a : Option Addr) (n c : Nat) (k : List Nat) (hR : Ri w r) (hr : Rb r) (hK : Bs w a k) (hn : n = k.length) (hc : k.length ≤ c) (hl : k.length ≤ 140737488355328) :
    Calls Try.prog 17 #[r.val, .slice a n c] w fun e w' => ∃ q s : Rv, e = .returned (.tuple #[q.val, s.val]) ∧ Fam w w' (rowsOf [q, s]) ∧ Below w.heap.size w w' ∧ q.rg = splitL r.rg k ∧ s.rg = splitH r.rg k := by
  subst hn
  have ME1 := hide fun w1 (hb : Below w.heap.size w w1) => Meet_any w1 r ⟨none, 0, [], a, c, k, false⟩ (hR.keep hb) ⟨Bs.nil _, Nat.le_refl _, hK.keep hb, hc⟩ hr ⟨Nat.zero_le _, hl⟩
  have ME2 := hide fun w1 (hb : Below w.heap.size w w1) => Meet_any w1 r ⟨a, c, k, none, 0, [], true⟩ (hR.keep hb) ⟨hK.keep hb, hc, Bs.nil _, Nat.le_refl _⟩ hr ⟨hl, Nat.zero_le _⟩
  clear hR hr hK
  obtain ⟨aL, cL, lo, aH, cH, hi, op⟩ := r
  unfold Rv.val at ME1 ME2 ⊢
  dsimp only [Rv.cs, List.length_nil] at ME1 ME2 ⊢
  unfold splitL splitH
  go_enter Try.func17, Try.ntmps17
  go_wp2
  have P0 : Hid (Pk w #[.slice aL lo.length cL, .slice aH hi.length cH, .bool op] (((w.alloc (.cells #[.slice aL lo.length cL, .slice aH hi.length cH, .bool op] 24)).alloc (.cells #[.slice none 0 0, .slice none 0 0, .bool false] 24)).alloc (.cells #[.slice none 0 0, .slice none 0 0, .bool false] 24)).drew) := Pk.of (three_blocks w _ _ _ (drN _ 1))
  have S0 := row3_cells P0.out.m0
  have hn1 : w.heap.size + 1 ≠ w.heap.size := by omega
  have hn2 : w.heap.size + 1 + 1 ≠ w.heap.size := by omega
  have P21 := P0
  have P22 := P0
  have S21 := S0
  have S22 := S0
  go_region_held3 (fun w' => w'.cell? ⟨w.heap.size, 0, none⟩ = some (.slice aL lo.length cL) ∧ w'.cell? ⟨w.heap.size, 1, none⟩ = some (.slice aH hi.length cH) ∧ w'.cell? ⟨w.heap.size, 2, none⟩ = some (.bool op))
    (first | with_reducible exact S0 | with_reducible exact S21 | with_reducible exact S22 | with_reducible exact three_set (three_set S21 hn1 _ _ _) hn2 _ _ _ | with_reducible exact three_set (three_set S21 hn2 _ _ _) hn1 _ _ _ | with_reducible exact three_set (three_set S22 hn1 _ _ _) hn2 _ _ _ | with_reducible exact three_set (three_set S22 hn2 _ _ _) hn1 _ _ _ | with_reducible exact three_set S21 hn1 _ _ _ | with_reducible exact three_set S21 hn2 _ _ _ | with_reducible exact three_set S22 hn1 _ _ _ | with_reducible exact three_set S22 hn2 _ _ _)
    (first | (go_at_call 14; with_reducible refine (ME1.out _ ?hb).mono ?_; (case hb => exact P22.out.b); rintro e w21 ⟨q, rfl, ro, hq⟩; have P21 := hide (P22.out.keep ro.l.b); have S21 := row3_cells P21.out.m0; obtain ⟨⟨x0, x1, x2⟩, x3, x4, x5⟩ := six P21.out.m1; obtain ⟨⟨y0, y1, y2⟩, y3, y4, y5⟩ := six P21.out.m2; have RO1 := hide ro; have HQ1 := hide hq; clear ro hq) | (go_at_call 14; with_reducible refine (ME2.out _ ?hb).mono ?_; (case hb => exact P21.out.b); rintro e w22 ⟨p, rfl, rp, hp⟩; have P22 := hide (P21.out.keep rp.l.b); have S22 := row3_cells P22.out.m0; obtain ⟨⟨x0, x1, x2⟩, x3, x4, x5⟩ := six P22.out.m1; obtain ⟨⟨y0, y1, y2⟩, y3, y4, y5⟩ := six P22.out.m2; have RO2 := hide rp; have HP1 := hide hp; clear rp hp))
  have M1 := hide (set3_heap P22.out.m1 (.slice q.aL q.lo.length q.cL) (.slice q.aH q.hi.length q.cH) (.bool q.op))
  have M2 := hide (fun (W : World) (h : W.heap[w.heap.size + 1 + 1]? = some (.cells #[.slice none 0 0, .slice none 0 0, .bool false] 24 (0, 0))) => set3_heap h (.slice p.aL p.lo.length p.cL) (.slice p.aH p.hi.length p.cH) (.bool p.op))
  have F1 := hide ((Fam.pre P0.out.b RO1.out.fam).add RO2.out.fam RO2.out.l.b P21.out.b)
  have N1 : Hid (∀ t ∈ q.rows ++ p.rows, ∀ x, t.a = some x → ¬ (x.block = w.heap.size + 1 ∨ x.block = w.heap.size + 1 + 1)) := by
    intro t ht x hx e
    have hge : w.heap.size + 3 ≤ x.block := by
      rcases List.mem_append.1 ht with h | h
      · exact Nat.le_trans P0.out.s ((RO1.out.fam.own t h).1.fresh hx)
      · exact Nat.le_trans P21.out.s ((RO2.out.fam.own t h).1.fresh hx)
    omega
  clear S0 S21 S22 x0 x1 x2 x3 x4 x5 y0 y1 y2 y3 y4 y5
  go_wp2
  refine bodyPost_ret (v := .tuple #[.agg _, .agg _]) (res_cell_cell Try.results17 _ _ (w.heap.size + 1) (w.heap.size + 1 + 1) 24 _ _ (0, 0) _ rfl rfl ((set3_other (by omega) _ _ _).trans M1.out) (M2.out _ ((set3_other (by omega) _ _ _).trans P22.out.m2)) Try.underlying24 rfl sizeRange sizeRange) rfl ?_
  have hB := ((But.refl (fun k => k = w.heap.size + 1 ∨ k = w.heap.size + 1 + 1) w22).set3 (.inl rfl) (.slice q.aL q.lo.length q.cL) (.slice q.aH q.hi.length q.cH) (.bool q.op)).set3 (.inr rfl) (.slice p.aL p.lo.length p.cL) (.slice p.aH p.hi.length p.cH) (.bool p.op)
  have hL : Below w.heap.size w _ := ⟨hB.os.trans P22.out.b.os, hB.tape.trans P22.out.b.tape, hB.output.trans P22.out.b.output, Nat.le_trans P22.out.b.size hB.size, fun k hk => (hB.block k (Nat.lt_of_lt_of_le hk P22.out.b.size) (by omega)).trans (P22.out.b.block k hk)⟩
  refine ⟨q, p, rfl, ?_, hL, HQ1.out, HP1.out⟩
  rw [rowsOf_cons, rowsOf_one]
  exact F1.out.but hB hL N1.out
end Go.Proofs.Ytbobnfjbbablkab
