import Derived.Test.YtdinhfogclmaaaaUYNC
namespace Go.Proofs.Ytdinhfogclmaaaa
set_option linter.unusedVariables false
open Go.RowKit

/-! ### what renew holds -/
theorem Vw.addr {w : World} {a : Option Addr} {cap : Nat} {L : List Rn} (h : Vw w a cap L) (h0 : L ≠ []) : ∃ g, a = some ⟨g, 0, none⟩ := by
  rcases h.cases with ⟨_, _, rfl⟩ | ⟨g, Y, rfl, _⟩
  · exact absurd rfl h0
  · exact ⟨g, rfl⟩
theorem Vw.thaw {w : World} {g cap : Nat} {L : List Rn} (h : Vw w (some ⟨g, 0, none⟩) cap L) (k : Nat) : w.frozen? ⟨g, k, none⟩ = false := by
  rcases h.cases with ⟨h0, _⟩ | ⟨g', Y, h0, hg, _⟩
  · cases h0
  · cases h0
    exact frozen_of_row _ _ _ _ _ hg
theorem Vw.cell {w : World} {g cap : Nat} {L : List Rn} (h : Vw w (some ⟨g, 0, none⟩) cap L) {i : Nat} (hi : i < L.length) : w.cell? ⟨g, i * 2, none⟩ = some (.int .i8 (L.getD i Rn.zero).1) ∧ w.cell? ⟨g, i * 2 + 1, none⟩ = some (.int .i8 (L.getD i Rn.zero).2) := by
  obtain ⟨b, o, e, h1, h2⟩ := h.vs.at hi
  rcases h.cases with ⟨h0, _⟩ | ⟨g', Y, h0, _⟩
  · cases h0
  · rcases h.vs with rfl | ⟨b', o', e', hc⟩
    · simp at hi
    · have r := rc_get L i hi
      have ee := e'
      simp only [Option.some.injEq, Addr.mk.injEq, and_true] at ee
      obtain ⟨rfl, rfl⟩ := ee
      have c1 := hc _ _ r.1
      have c2 := hc _ _ r.2
      rw [Nat.zero_add] at c1 c2
      exact ⟨c1, c2⟩
theorem rc_set : ∀ (L : List Rn) (i : Nat) (r : Rn), i < L.length → rc (L.set i r) = ((rc L).set (i * 2) (.int .i8 r.1)).set (i * 2 + 1) (.int .i8 r.2)
  | [], i, r, h => by simp at h
  | x :: L, 0, r, _ => by rw [List.set_cons_zero, rc_cons, rc_cons]; rfl
  | x :: L, i + 1, r, h => by
    rw [List.set_cons_succ, rc_cons, rc_cons, show (i + 1) * 2 = i * 2 + 1 + 1 by omega, List.set_cons_succ, List.set_cons_succ, List.set_cons_succ, List.set_cons_succ, rc_set L i r (by simpa using h)]
/-- one number of a run is stored -/
theorem Rowb.set {w : World} {g : Nat} {C : List Value} (h : Rowb w g C) (k : Nat) (v : Value) : Rowb (w.setCell ⟨g, k, none⟩ v) g (C.set k v) := by
  unfold Rowb at *
  rw [heap_setCell_same w g k _ _ v h]
  simp
theorem Vw.setv {w : World} {g cap : Nat} {L : List Rn} (h : Vw w (some ⟨g, 0, none⟩) cap L) {i : Nat} (hi : i < L.length) (r : Rn) : Vw ((w.setCell ⟨g, i * 2, none⟩ (.int .i8 r.1)).setCell ⟨g, i * 2 + 1, none⟩ (.int .i8 r.2)) (some ⟨g, 0, none⟩) cap (L.set i r) := by
  rcases h.cases with ⟨h0, _⟩ | ⟨g', Y, h0, hg, h1, h2, h3⟩
  · cases h0
  · simp only [Option.some.injEq, Addr.mk.injEq, and_true] at h0
    subst h0
    have h := (hg.set (i * 2) (.int .i8 r.1)).set (i * 2 + 1) (.int .i8 r.2)
    have hl := rc_length L
    rw [List.set_append_left _ _ (by omega), List.set_append_left _ _ (by rw [List.length_set]; omega), ← rc_set L i r hi] at h
    exact Vw.mk h (by rw [List.length_set]; exact h1) h2 (by rw [List.length_set]; exact h3)
theorem Vw.one {w : World} {g cap : Nat} {L : List Rn} (h : Vw w (some ⟨g, 0, none⟩) cap L) {i : Nat} (hi : i < L.length) (v : Value) : (w.setCell ⟨g, i * 2, none⟩ v).cell? ⟨g, i * 2 + 1, none⟩ = some (.int .i8 (L.getD i Rn.zero).2) ∧ (w.setCell ⟨g, i * 2, none⟩ v).frozen? ⟨g, i * 2 + 1, none⟩ = false := by
  rcases h.cases with ⟨h0, _⟩ | ⟨g', Y, h0, hg, h1, h2, h3⟩
  · cases h0
  · simp only [Option.some.injEq, Addr.mk.injEq, and_true] at h0
    subst h0
    have hl := rc_length L
    have hs := hg.set (i * 2) v
    refine ⟨?_, frozen_of_row _ _ _ _ _ hs⟩
    rw [cell_of_row _ _ _ _ _ _ hs, List.getElem?_toArray, List.getElem?_set_ne (by omega), List.getElem?_append_left (by omega)]
    exact (rc_get L i hi).2
def kc (X : List Int) : List Value := X.map fun x => Value.int .i8 x
theorem kc_length (X : List Int) : (kc X).length = X.length := by simp [kc]
theorem kc_get (X : List Int) {i : Nat} (h : i < X.length) : (kc X)[i]? = some (.int .i8 (X.getD i 0)) := by simp [kc, h]
theorem kc_set (X : List Int) (i : Nat) (x : Int) : (kc X).set i (.int .i8 x) = kc (X.set i x) := by simp [kc, List.map_set]
theorem Gw.set {e : TypeId} {w : World} {g cap n : Nat} {C : List Value} (h : Gw e 1 w (some ⟨g, 0, none⟩) cap n C) {i : Nat} (hi : i < n) (v : Value) : Gw e 1 (w.setCell ⟨g, i, none⟩ v) (some ⟨g, 0, none⟩) cap n (C.set i v) := by
  have hl := h.length
  rcases h.cases with ⟨h0, _⟩ | ⟨g', cur, h0, hg, h1, h2, h3, h4⟩
  · cases h0
  · simp only [Option.some.injEq, Addr.mk.injEq, and_true] at h0
    subst h0
    refine Gw.mk (by rw [List.length_set]; exact hl) (heap_setCell_same w g i _ _ v hg) h1 h2 (by simpa using h3) ?_
    rw [← h4, Array.toList_setIfInBounds, List.take_set]
theorem Gw.thaw {e : TypeId} {sz : Nat} {w : World} {g cap n : Nat} {C : List Value} (h : Gw e sz w (some ⟨g, 0, none⟩) cap n C) (k : Nat) : w.frozen? ⟨g, k, none⟩ = false := by
  rcases h.cases with ⟨h0, _⟩ | ⟨g', cur, h0, hg, _⟩
  · cases h0
  · cases h0
    exact frozen_of_row _ _ _ _ _ hg
theorem made_vw (w : World) (n : Nat) (hn : n ≤ 8796093022208) : Vw (w.alloc (.cells (madeCells (rcs Rn.zero) (n * 2)) 47)) (some ⟨w.heap.size, 0, none⟩) n (List.replicate n Rn.zero) := by
  have e : (madeCells (rcs Rn.zero) (n * 2)).toList = rc (List.replicate n Rn.zero) := zeroCells_run n
  have hr := made_row w n
  rw [e] at hr
  exact Vw.mk (Y := []) (by rw [List.append_nil]; exact hr) (by simp) (by unfold maxLen; omega) (by simp)
theorem infoT : (Try.prog.info? 25).map (fun i => (i.zero, i.size, i.bytes)) = some (some (.int .i8 0), 1, 1) := by kernel_rfl
theorem make_list (n : Nat) (hn : n ≤ 8796093022208) (w : World) : (Instr.makeSlice 44 (.int .i64 (n : Int)) (.int .i64 (n : Int))).run Try.prog w = .ok (.slice (some ⟨w.heap.size, 0, none⟩) n n) (w.alloc (.cells (madeCells #[.int .i8 0] (n * 1)) 25)) := by
  obtain ⟨i0, hi, hz0, hz1, hz2⟩ := info_parts infoT
  have hr := run_make (P := Try.prog) w 44 25 i0 (.int .i8 0) Try.underlying44 hi hz0 .i64 .i64 n n (by omega) (by omega) (by rw [hz2]; omega) (by omega)
  simp only [Int.toNat_natCast, hz1] at hr
  exact hr
theorem made_list (w : World) (n : Nat) (hn : n ≤ 8796093022208) : Gw 25 1 (w.alloc (.cells (madeCells #[.int .i8 0] (n * 1)) 25)) (some ⟨w.heap.size, 0, none⟩) n n (kc (List.replicate n 0)) := by
  refine Gw.mk (by rw [kc_length]; simp) (World.alloc_heap_new w _) (Nat.le_refl _) (by unfold maxLen; omega) (by rw [size_madeCells]) ?_
  apply List.ext_getElem?
  intro i
  rw [Nat.mul_one]
  by_cases hi : i < n
  · rw [List.getElem?_take, if_pos hi, kc_get _ (by simpa using hi)]
    simp [madeCells, hi, Nat.mod_one]
  · rw [List.getElem?_eq_none (by rw [List.length_take, Array.length_toList, size_madeCells]; omega), List.getElem?_eq_none (by rw [kc_length]; simp; omega)]
/-- what is handed over: the document's runs, turned into the kind -/
def cv (r : Rn) : Rn := (IntKind.i8.wrap r.1, IntKind.i8.wrap r.2)
theorem cv_nm (r : Rn) : Nm (cv r).1 ∧ Nm (cv r).2 := ⟨nm_wrap _, nm_wrap _⟩
/-- renew's own memory -/
structure Ld (w : World) (B I J N : Nat) (OB : Array Value) (n : Nat) (IN : List Rn) (LZ : List Int) (a : Option Addr) (cap : Nat) (Q : List Rn) : Prop where
  box : w.heap[B]? = some (.cells OB 41 (0, 0))
  inr : Vw w (some ⟨I, 0, none⟩) n IN
  inl : IN.length = n
  los : Gw 25 1 w (some ⟨J, 0, none⟩) n n (kc LZ)
  nxt : Rt w N a cap Q
theorem blk_ne {w : World} {A B : Nat} {c d : Array Value} {s t : TypeId} {x y : Nat × Nat} (h : w.heap[A]? = some (.cells c s x)) (k : w.heap[B]? = some (.cells d t y)) (hne : s ≠ t) : A ≠ B := by
  intro e
  rw [e, k] at h
  simp only [Option.some.injEq, Obj.cells.injEq] at h
  exact hne h.2.1.symm
theorem Vw.blk {w : World} {g cap : Nat} {L : List Rn} (h : Vw w (some ⟨g, 0, none⟩) cap L) : ∃ c, w.heap[g]? = some (.cells c 47 (0, 0)) := by
  rcases h.cases with ⟨h0, _⟩ | ⟨g', Y, h0, hg, _⟩
  · cases h0
  · cases h0; exact ⟨_, hg⟩
theorem Rf.Vw.blk {w : World} {a : Option Addr} {cap : Nat} {L : List Rn} (h : Rf.Vw w a cap L) {x : Addr} (hx : a = some x) : ∃ c, w.heap[x.block]? = some (.cells c 87 (0, 0)) := by
  rcases h.cases with ⟨rfl, _⟩ | ⟨g', Y, rfl, hg, _⟩
  · cases hx
  · cases hx; exact ⟨_, hg⟩
theorem Gw.blk {e : TypeId} {sz : Nat} {w : World} {g cap n : Nat} {C : List Value} (h : Gw e sz w (some ⟨g, 0, none⟩) cap n C) : ∃ c, w.heap[g]? = some (.cells c e (0, 0)) := by
  rcases h.cases with ⟨h0, _⟩ | ⟨g', cur, h0, hg, _⟩
  · cases h0
  · cases h0; exact ⟨_, hg⟩
theorem Ld.but {S : Nat → Prop} {w w' : World} {B I J N : Nat} {OB : Array Value} {n : Nat} {IN : List Rn} {LZ : List Int} {a : Option Addr} {cap : Nat} {Q : List Rn} (h : Ld w B I J N OB n IN LZ a cap Q) (hB : But S w w') (h1 : ¬ S B) (h2 : ¬ S I) (h3 : ¬ S J) (h4 : ¬ S N) (h5 : ∀ x, a = some x → ¬ S x.block) : Ld w' B I J N OB n IN LZ a cap Q :=
  ⟨hB.same h.box h1, h.inr.but hB (fun x hx => by cases hx; exact h2), h.inl, h.los.but hB (fun x hx => by cases hx; exact h3), h.nxt.but hB h4 h5⟩
theorem Ld.keep {w w' : World} {B I J N : Nat} {OB : Array Value} {n : Nat} {IN : List Rn} {LZ : List Int} {a : Option Addr} {cap : Nat} {Q : List Rn} (h : Ld w B I J N OB n IN LZ a cap Q) (hb : Below w.heap.size w w') : Ld w' B I J N OB n IN LZ a cap Q :=
  h.but (S := fun _ => False) (But.ofBelow hb) (fun h => h) (fun h => h) (fun h => h) (fun h => h) (fun _ _ h => h)
/-- a block of another kind turns -/
theorem Ld.apart {w w' : World} {B I J N X : Nat} {OB : Array Value} {n : Nat} {IN : List Rn} {LZ : List Int} {a : Option Addr} {cap : Nat} {Q : List Rn} (h : Ld w B I J N OB n IN LZ a cap Q) {d : Array Value} {t : TypeId} (hX : w.heap[X]? = some (.cells d t (0, 0))) (t1 : t ≠ 41) (t2 : t ≠ 47) (t3 : t ≠ 25) (t4 : t ≠ 39) (t5 : t ≠ 87) (hB : But (fun k => k = X) w w') : Ld w' B I J N OB n IN LZ a cap Q := by
  obtain ⟨c1, b1⟩ := h.inr.blk
  obtain ⟨c2, b2⟩ := h.los.blk
  refine h.but hB (fun e => blk_ne hX h.box t1 e.symm) (fun e => blk_ne hX b1 t2 e.symm) (fun e => blk_ne hX b2 t3 e.symm) (fun e => blk_ne hX h.nxt.blk t4 e.symm) (fun x hx e => ?_)
  obtain ⟨c3, b3⟩ := h.nxt.row.blk hx
  exact blk_ne hX b3 t5 e.symm
theorem Ld.setI {w : World} {B I J N : Nat} {OB : Array Value} {n : Nat} {IN : List Rn} {LZ : List Int} {a : Option Addr} {cap : Nat} {Q : List Rn} (h : Ld w B I J N OB n IN LZ a cap Q) {i : Nat} (hi : i < n) (r : Rn) : Ld ((w.setCell ⟨I, i * 2, none⟩ (.int .i8 r.1)).setCell ⟨I, i * 2 + 1, none⟩ (.int .i8 r.2)) B I J N OB n (IN.set i r) LZ a cap Q := by
  obtain ⟨c1, b1⟩ := h.inr.blk
  obtain ⟨c2, b2⟩ := h.los.blk
  have hB : But (fun k => k = I) w ((w.setCell ⟨I, i * 2, none⟩ (.int .i8 r.1)).setCell ⟨I, i * 2 + 1, none⟩ (.int .i8 r.2)) := ((But.refl (fun k => k = I) w).setCell (p := ⟨I, i * 2, none⟩) (fun _ => rfl) _).setCell (p := ⟨I, i * 2 + 1, none⟩) (fun _ => rfl) _
  refine ⟨hB.same h.box (fun e => blk_ne b1 h.box (by decide) e.symm), h.inr.setv (by rw [h.inl]; exact hi) r, by rw [List.length_set]; exact h.inl, h.los.but hB (fun x hx e => ?_), h.nxt.but hB (fun e => blk_ne b1 h.nxt.blk (by decide) e.symm) (fun x hx e => ?_)⟩
  · cases hx
    exact blk_ne b1 b2 (by decide) e.symm
  · obtain ⟨c3, b3⟩ := h.nxt.row.blk hx
    exact blk_ne b1 b3 (by decide) e.symm
theorem Ld.setJ {w : World} {B I J N : Nat} {OB : Array Value} {n : Nat} {IN : List Rn} {LZ : List Int} {a : Option Addr} {cap : Nat} {Q : List Rn} (h : Ld w B I J N OB n IN LZ a cap Q) {i : Nat} (hi : i < n) (x : Int) : Ld (w.setCell ⟨J, i, none⟩ (.int .i8 x)) B I J N OB n IN (LZ.set i x) a cap Q := by
  obtain ⟨c1, b1⟩ := h.inr.blk
  obtain ⟨c2, b2⟩ := h.los.blk
  have hB : But (fun k => k = J) w (w.setCell ⟨J, i, none⟩ (.int .i8 x)) := (But.refl (fun k => k = J) w).setCell (p := ⟨J, i, none⟩) (fun _ => rfl) _
  refine ⟨hB.same h.box (fun e => blk_ne b2 h.box (by decide) e.symm), h.inr.but hB (fun y hx e => ?_), h.inl, by rw [← kc_set]; exact h.los.set hi _, h.nxt.but hB (fun e => blk_ne b2 h.nxt.blk (by decide) e.symm) (fun y hx e => ?_)⟩
  · cases hx
    exact blk_ne b2 b1 (by decide) e.symm
  · obtain ⟨c3, b3⟩ := h.nxt.row.blk hx
    exact blk_ne b2 b3 (by decide) e.symm
theorem Ld.next {w w' : World} {B I J N : Nat} {OB : Array Value} {n : Nat} {IN : List Rn} {LZ : List Int} {a a' : Option Addr} {cap cap' : Nat} {Q Q' : List Rn} (h : Ld w B I J N OB n IN LZ a cap Q) (hR : Rt w' N a' cap' Q') (hB : But (fun k => k = N) w w') : Ld w' B I J N OB n IN LZ a' cap' Q' := by
  obtain ⟨c1, b1⟩ := h.inr.blk
  obtain ⟨c2, b2⟩ := h.los.blk
  exact ⟨hB.same h.box (fun e => blk_ne h.nxt.blk h.box (by decide) e.symm), h.inr.but hB (fun x hx e => by cases hx; exact blk_ne h.nxt.blk b1 (by decide) e.symm), h.inl, h.los.but hB (fun x hx e => by cases hx; exact blk_ne h.nxt.blk b2 (by decide) e.symm), hR⟩
end Go.Proofs.Ytdinhfogclmaaaa

namespace Go.Proofs.Ytdinhfogclmaaaa
set_option linter.unusedVariables false
open Go.RowKit

/-! ### what a walk of renew needs -/
theorem Wc.wide {Z : Nat → Prop} {w w1 : World} {X : Nat} {c : Nat → Nat} {C : List Value} {D : Dat} (h : Wc Z w X c C D) (hb : Below w.heap.size w w1) : Wc (fun k => Z k ∨ (w.heap.size ≤ k ∧ k < w1.heap.size)) w1 X (recol c w.heap.size 11) C D := by
  have g := h.grow (c' := recol c w.heap.size 11) hb (fun k hk => recol_old hk)
  exact ⟨g.blk, g.cX, g.st, g.rt, g.cP, g.cR, g.ww, g.cw, g.wk, g.tw, g.ctt, g.nn, g.cnn, g.td, g.wd, fun k hk => hk.elim (fun h1 => g.cz k h1) (fun h1 => ⟨h1.2, recol_new h1.1⟩)⟩
theorem Wc.less {Z Z' : Nat → Prop} {w : World} {X : Nat} {c : Nat → Nat} {C : List Value} {D : Dat} (h : Wc Z' w X c C D) (hz : ∀ k, Z k → Z' k) : Wc Z w X c C D := ⟨h.blk, h.cX, h.st, h.rt, h.cP, h.cR, h.ww, h.cw, h.wk, h.tw, h.ctt, h.nn, h.cnn, h.td, h.wd, fun k hk => h.cz k (hz k hk)⟩
theorem Wc.locl {Z : Nat → Prop} {w w1 : World} {X I : Nat} {c : Nat → Nat} {C : List Value} {D : Dat} (h : Wc Z w X c C D) (hz : Z I) (hB : But (fun k => k = I) w w1) : Wc Z w1 X c C D := by
  have F := h.frame (t := 11) (c' := c) (hB.mono fun k hk e => by rw [e]; exact (h.cz I hz).2) (by decide) (by decide) (fun _ _ => rfl)
  exact ⟨F.blk (by decide), F.cX, fun i hi => F.st i hi (by omega), fun i hi => F.rt i hi (by omega), F.cP, F.cR, F.ww (by decide), F.cw, F.wk, F.tw (by decide), F.ctt, F.nn (by decide), F.cnn, F.td, F.wd, F.cz⟩
/-- in and los, filled up to k -/
def inK (L : List Rn) (m k : Nat) : List Rn := (L.take k).map cv ++ List.replicate (m - k) Rn.zero
def loK (L : List Rn) (m k : Nat) : List Int := (L.take k).map (fun r => (cv r).1) ++ List.replicate (m - k) 0
theorem rep_set {α : Type} (A : List α) (v x : α) {j k : Nat} (hk : k = A.length) (hj : 0 < j) : (A ++ List.replicate j v).set k x = A ++ [x] ++ List.replicate (j - 1) v := by
  obtain ⟨i, rfl⟩ : ∃ i, j = i + 1 := ⟨j - 1, by omega⟩
  rw [List.set_append_right _ _ (by omega), hk, Nat.sub_self, List.replicate_succ, List.set_cons_zero, Nat.add_sub_cancel]
  simp
theorem inK_next {L : List Rn} {m k : Nat} (hk : k < L.length) (hm : L.length ≤ m) : (inK L m k).set k (cv (L.getD k Rn.zero)) = inK L m (k + 1) := by
  unfold inK
  rw [rep_set _ _ _ (by rw [List.length_map, List.length_take]; omega) (by omega), take_next L Rn.zero hk, List.map_append, show m - k - 1 = m - (k + 1) by omega]
  rfl
theorem loK_next {L : List Rn} {m k : Nat} (hk : k < L.length) (hm : L.length ≤ m) : (loK L m k).set k (cv (L.getD k Rn.zero)).1 = loK L m (k + 1) := by
  unfold loK
  rw [rep_set _ _ _ (by rw [List.length_map, List.length_take]; omega) (by omega), take_next L Rn.zero hk, List.map_append, show m - k - 1 = m - (k + 1) by omega]
  rfl
def room : Rn := (77, 78)
def inF (L : List Rn) : List Rn := L.map cv ++ [room, room]
def loF (L : List Rn) : List Int := L.map (fun r => (cv r).1) ++ [77, 77]
theorem inK_full (L : List Rn) : ((inK L (L.length + 2) L.length).set L.length room).set (L.length + 1) room = inF L := by
  unfold inK inF
  rw [rep_set _ _ _ (by rw [List.length_map, List.length_take]; omega) (by omega), show L.length + 2 - L.length - 1 = 1 by omega, rep_set _ _ _ (by simp) (by omega), List.take_length]
  simp
theorem loK_full (L : List Rn) : ((loK L (L.length + 2) L.length).set L.length 77).set (L.length + 1) 77 = loF L := by
  unfold loK loF
  rw [rep_set _ _ _ (by rw [List.length_map, List.length_take]; omega) (by omega), show L.length + 2 - L.length - 1 = 1 by omega, rep_set _ _ _ (by simp) (by omega), List.take_length]
  simp
/-- in and los at the end: the first k are rubbed out -/
def inE (L : List Rn) (k : Nat) : List Rn := List.replicate k room ++ (L.drop k).map cv ++ [room, room]
def loE (L : List Rn) (k : Nat) : List Int := List.replicate k 77 ++ (L.drop k).map (fun r => (cv r).1) ++ [77, 77]
theorem inE_zero (L : List Rn) : inE L 0 = inF L := rfl
theorem loE_zero (L : List Rn) : loE L 0 = loF L := rfl
theorem drop_at {L : List Rn} {k : Nat} (hk : k < L.length) : L.drop k = L.getD k Rn.zero :: L.drop (k + 1) := by
  rw [List.drop_eq_getElem_cons hk]
  simp [hk]
theorem inE_at {L : List Rn} {k : Nat} (hk : k < L.length) : (inE L k).getD k Rn.zero = cv (L.getD k Rn.zero) ∧ (inE L k).set k room = inE L (k + 1) := by
  unfold inE
  rw [drop_at hk, List.map_cons, List.append_assoc]
  constructor
  · rw [List.getD_eq_getElem?_getD, List.getElem?_append_right (by simp)]
    simp
  · rw [List.set_append_right _ _ (by simp), List.length_replicate, Nat.sub_self, List.cons_append, List.set_cons_zero, List.replicate_succ']
    simp
theorem loE_at {L : List Rn} {k : Nat} (hk : k < L.length) : (loE L k).getD k 0 = (cv (L.getD k Rn.zero)).1 ∧ (loE L k).set k 77 = loE L (k + 1) := by
  unfold loE
  rw [drop_at hk, List.map_cons, List.append_assoc]
  constructor
  · rw [List.getD_eq_getElem?_getD, List.getElem?_append_right (by simp)]
    simp
  · rw [List.set_append_right _ _ (by simp), List.length_replicate, Nat.sub_self, List.cons_append, List.set_cons_zero, List.replicate_succ']
    simp
theorem inF_at (L : List Rn) : (∀ k, k < L.length → (inF L).getD k Rn.zero = cv (L.getD k Rn.zero)) ∧ (inF L).getD L.length Rn.zero = room ∧ (inF L).getD (L.length + 1) Rn.zero = room ∧ (inF L).length = L.length + 2 := by
  unfold inF
  refine ⟨fun k hk => ?_, ?_, ?_, by simp⟩
  · rw [List.getD_eq_getElem?_getD, List.getElem?_append_left (by simpa using hk)]
    simp [hk]
  · rw [List.getD_eq_getElem?_getD, List.getElem?_append_right (by simp)]
    simp
  · rw [List.getD_eq_getElem?_getD, List.getElem?_append_right (by simp)]
    simp
theorem loF_at (L : List Rn) : (∀ k, k < L.length → (loF L).getD k 0 = (cv (L.getD k Rn.zero)).1) ∧ (loF L).getD L.length 0 = 77 ∧ (loF L).getD (L.length + 1) 0 = 77 ∧ (loF L).length = L.length + 2 := by
  unfold loF
  refine ⟨fun k hk => ?_, ?_, ?_, by simp⟩
  · rw [List.getD_eq_getElem?_getD, List.getElem?_append_left (by simpa using hk)]
    simp [hk]
  · rw [List.getD_eq_getElem?_getD, List.getElem?_append_right (by simp)]
    simp
  · rw [List.getD_eq_getElem?_getD, List.getElem?_append_right (by simp)]
    simp
theorem run_eqR (p q p' q' : Int) (w : World) : (binOp .eql 47 (.agg #[.int .i8 p, .int .i8 q]) (.agg #[.int .i8 p', .int .i8 q'])).run Try.prog w = .ok (.bool (decide (p = p') && decide (q = q'))) w := by
  have hS : Try.prog.underlying 47 = some (.struct (Try.prog.fieldsOf 47)) := by kernel_rfl
  have hp : Try.prog.stoodInHeld 47 = false := by kernel_rfl
  rw [run_eql_struct, show (10000 : Nat) = 9999 + 1 from rfl, run_equalIn_agg w 9999 47 _ _ hS hp]
  simp only [Program.fieldsOf, Try.underlying47]
  go_simp
  by_cases h1 : p = p' <;> by_cases h2 : q = q' <;> simp [h1, h2]
end Go.Proofs.Ytdinhfogclmaaaa

namespace Go.Proofs.Ytdinhfogclmaaaa
set_option linter.unusedVariables false
open Go.RowKit

/-! ### renew, behind its switch -/
theorem St.blkA {w : World} {b : Nat} {a : Option Addr} {cap : Nat} {L : List Rn} (h : St w b a cap L) {x : Addr} (hx : a = some x) : ∃ c, w.heap[x.block]? = some (.cells c 47 (0, 0)) := by
  rcases h.row.cases with ⟨rfl, _⟩ | ⟨g', Y, rfl, hg, _⟩
  · cases hx
  · cases hx; exact ⟨_, hg⟩
/-- a set of each is another one, new since w -/
theorem Wk.renew {Z : Nat → Prop} {w W' : World} {X m : Nat} {D : Dat} (h : Wk Z w X m D) {s : Nat} (hs : s < 3) (hB : But (fun k => k = X) w W') {b b2 : Nat} {a a2 : Option Addr} {cap cap2 : Nat} {L L2 : List Rn}
    (hX : W'.heap[X]? = some (.cells ((D.cells.set s (pt b)).set (3 + s) (pt b2)).toArray 35 (0, 0))) (hS : St W' b a cap L) (hR : Rt W' b2 a2 cap2 L2) (f1 : w.heap.size ≤ b) (f2 : ∀ x, a = some x → w.heap.size ≤ x.block) (f3 : w.heap.size ≤ b2) (f4 : ∀ x, a2 = some x → w.heap.size ≤ x.block)
    (he : ∀ z, has L z = has L2 z) (hl : L.length ≤ 9000000000000) : ∃ D', Wk Z W' X (m + 1) D' ∧ But (fun k => ¬ Z k) w W' := by
  classical
  obtain ⟨c, hc⟩ := h.wc
  obtain ⟨c', hc'⟩ : ∃ c' : Nat → Nat, c' = fun k => if k < w.heap.size then c k else if k = b ∨ InA a k then s + 1 else s + 4 := ⟨_, rfl⟩
  have F := hc.frame (t := 7) (c' := c') (hB.mono fun k hk e => by rw [e]; exact hc.cX) (by decide) (by decide) (fun k hk => by rw [hc']; exact if_pos hk)
  have n1 : ∀ k, w.heap.size ≤ k → (k = b ∨ InA a k) → c' k = s + 1 := fun k hk h => by
    rw [hc']
    show (if k < w.heap.size then c k else if k = b ∨ InA a k then s + 1 else s + 4) = s + 1
    rw [if_neg (by omega), if_pos h]
  have n2 : ∀ k, w.heap.size ≤ k → ¬ (k = b ∨ InA a k) → c' k = s + 4 := fun k hk h => by
    rw [hc']
    show (if k < w.heap.size then c k else if k = b ∨ InA a k then s + 1 else s + 4) = s + 4
    rw [if_neg (by omega), if_neg h]
  refine ⟨(D.setP s b a cap L).setR s b2 a2 cap2 L2, ⟨⟨c', ?_⟩, fun j hj => ?_, fun j hj => ?_, Nat.le_succ_of_le h.nw, Nat.le_succ_of_le h.nt, h.nv, h.tl⟩, F.nz (by decide)⟩
  · refine ⟨?_, F.cX, fun j hj => ?_, fun j hj => ?_, fun j hj => ?_, fun j hj => ?_, F.ww (by decide), F.cw, F.wk, F.tw (by decide), F.ctt, F.nn (by decide), F.cnn, F.td, F.wd, F.cz⟩
    · rw [newR_cells (D.setP s b a cap L) hs, newP_cells D hs]
      exact hX
    · show St W' (upd D.P s b j) (upd D.pa s a j) (upd D.pc s cap j) (upd D.S s L j)
      by_cases e : j = s
      · subst e
        rw [upd_same, upd_same, upd_same, upd_same]
        exact hS
      · rw [upd_ne _ _ e, upd_ne _ _ e, upd_ne _ _ e, upd_ne _ _ e]
        exact F.st j hj (by omega)
    · show Rt W' (upd D.R s b2 j) (upd D.ra s a2 j) (upd D.rc s cap2 j) (upd D.Q s L2 j)
      by_cases e : j = s
      · subst e
        rw [upd_same, upd_same, upd_same, upd_same]
        exact hR
      · rw [upd_ne _ _ e, upd_ne _ _ e, upd_ne _ _ e, upd_ne _ _ e]
        exact F.rt j hj (by omega)
    · show c' (upd D.P s b j) = j + 1 ∧ ∀ x, upd D.pa s a j = some x → c' x.block = j + 1
      by_cases e : j = s
      · subst e
        rw [upd_same, upd_same]
        exact ⟨n1 _ f1 (.inl rfl), fun x hx => n1 _ (f2 x hx) (.inr ⟨x, hx, rfl⟩)⟩
      · rw [upd_ne _ _ e, upd_ne _ _ e]
        exact F.cP j hj
    · show c' (upd D.R s b2 j) = j + 4 ∧ ∀ x, upd D.ra s a2 j = some x → c' x.block = j + 4
      by_cases e : j = s
      · subst e
        rw [upd_same, upd_same]
        refine ⟨n2 _ f3 ?_, fun x hx => n2 _ (f4 x hx) ?_⟩
        · rintro (h1 | ⟨y, hy, h1⟩)
          · exact blk_ne hR.blk hS.blk (by decide) h1
          · obtain ⟨c1, e1⟩ := hS.blkA hy
            exact blk_ne e1 hR.blk (by decide) h1
        · obtain ⟨c2, e2⟩ := hR.row.blk hx
          rintro (h1 | ⟨y, hy, h1⟩)
          · exact blk_ne e2 hS.blk (by decide) h1
          · obtain ⟨c1, e1⟩ := hS.blkA hy
            exact blk_ne e1 e2 (by decide) h1
      · rw [upd_ne _ _ e, upd_ne _ _ e]
        exact F.cR j hj
  · show upd D.S s L j = upd D.Q s L2 j
    by_cases e : j = s
    · subst e
      rw [upd_same, upd_same]
      exact can_unique hS.can hR.can he
    · rw [upd_ne _ _ e, upd_ne _ _ e]
      exact h.eq j hj
  · show (upd D.S s L j).length ≤ _
    by_cases e : j = s
    · subst e
      rw [upd_same]
      exact hS.nat
    · rw [upd_ne _ _ e]
      have := h.len j hj
      omega
/-- behind the switch: the work's block, the new set of the program's, room -/
structure Tl (w wx : World) (X VH : Nat) (C : List Value) (b : Nat) (a : Option Addr) (cap : Nat) (L : List Rn) (rmb : Nat) : Prop where
  bu : But (fun k => k = X) w wx
  hx : wx.heap[X]? = some (.cells C.toArray 35 (0, 0))
  st : St wx b a cap L
  sb : VH ≤ b
  sa : ∀ x, a = some x → VH ≤ x.block
  r0 : wx.cell? ⟨rmb, 0, none⟩ = some (.int .i8 77)
  r1 : wx.cell? ⟨rmb, 1, none⟩ = some (.int .i8 78)
theorem Tl.keep {w wx wy : World} {X VH : Nat} {C : List Value} {b : Nat} {a : Option Addr} {cap : Nat} {L : List Rn} {rmb : Nat} (h : Tl w wx X VH C b a cap L rmb) (hb : Below wx.heap.size wx wy) : Tl w wy X VH C b a cap L rmb :=
  ⟨h.bu.andBelow hb, (hb.block X (Array.getElem?_eq_some_iff.1 h.hx).1).trans h.hx, h.st.keep hb, h.sb, h.sa, (hb.cell (p := ⟨rmb, 0, none⟩) (block_lt_of_cell h.r0)).trans h.r0, (hb.cell (p := ⟨rmb, 1, none⟩) (block_lt_of_cell h.r1)).trans h.r1⟩
/-- a store into the work -/
theorem Tl.store {w wx : World} {X VH : Nat} {C : List Value} {b : Nat} {a : Option Addr} {cap : Nat} {L : List Rn} {rmb : Nat} (h : Tl w wx X VH C b a cap L rmb) (hX : X < w.heap.size) (hr : w.heap.size ≤ rmb) (hv : w.heap.size ≤ VH) (n : Nat) (v : Value) : Tl w (wx.setCell ⟨X, n, none⟩ v) X VH (C.set n v) b a cap L rmb := by
  have hB := set_but wx X n v
  have sb := h.sb
  exact ⟨h.bu.trans hB (fun _ _ h => h), set_blk h.hx, h.st.but hB (by omega) (fun x hx e => by have := h.sa x hx; omega), h.sb, h.sa, (hB.cell (p := ⟨rmb, 0, none⟩) (block_lt_of_cell h.r0) (fun e => by have e' : rmb = X := e; omega)).trans h.r0, (hB.cell (p := ⟨rmb, 1, none⟩) (block_lt_of_cell h.r1) (fun e => by have e' : rmb = X := e; omega)).trans h.r1⟩
/-- a block of renew's own turns -/
theorem Tl.locl {w wx wy : World} {X VH I : Nat} {C : List Value} {b : Nat} {a : Option Addr} {cap : Nat} {L : List Rn} {rmb : Nat} (h : Tl w wx X VH C b a cap L rmb) (hX : X < w.heap.size) (hI : w.heap.size ≤ I) (hv : I < VH) (hr : rmb ≠ I) (hB : But (fun k => k = I) wx wy) : Tl w wy X VH C b a cap L rmb := by
  have sb := h.sb
  exact ⟨h.bu.trans hB (fun x hx e => by omega), hB.same h.hx (by omega), h.st.but hB (by omega) (fun x hx e => by have := h.sa x hx; omega), h.sb, h.sa, (hB.cell (p := ⟨rmb, 0, none⟩) (block_lt_of_cell h.r0) (fun e => hr e)).trans h.r0, (hB.cell (p := ⟨rmb, 1, none⟩) (block_lt_of_cell h.r1) (fun e => hr e)).trans h.r1⟩
end Go.Proofs.Ytdinhfogclmaaaa
