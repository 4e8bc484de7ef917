import Derived.Test.YtbobnfjbbablkaaZEI
import Derived.Deep.CutRange
namespace Go.Proofs.Ytbobnfjbbablkaa
open Go.RowKit

/-- ten cells of a block -/
def Ten (w : World) (g : Nat) (cs : Array Value) : Prop := w.cell? ⟨g, 0, none⟩ = some cs[0]! ∧ w.cell? ⟨g, 1, none⟩ = some cs[1]! ∧ w.cell? ⟨g, 2, none⟩ = some cs[2]! ∧ w.cell? ⟨g, 3, none⟩ = some cs[3]! ∧ w.cell? ⟨g, 4, none⟩ = some cs[4]! ∧ w.cell? ⟨g, 5, none⟩ = some cs[5]! ∧ w.cell? ⟨g, 6, none⟩ = some cs[6]! ∧ w.cell? ⟨g, 7, none⟩ = some cs[7]! ∧ w.cell? ⟨g, 8, none⟩ = some cs[8]! ∧ w.cell? ⟨g, 9, none⟩ = some cs[9]!
theorem Ten.of {w : World} {g : Nat} {cs : Array Value} {t : TypeId} (h : w.heap[g]? = some (.cells cs t (0, 0))) (hs : cs.size = 10) : Ten w g cs := by
  have one : ∀ i, i < 10 → w.cell? ⟨g, i, none⟩ = some cs[i]! := fun i hi => by
    rw [cell_of_row _ _ _ _ _ _ h, Array.getElem?_eq_getElem (by omega), getElem!_pos cs i (by omega)]
  exact ⟨one 0 (by decide), one 1 (by decide), one 2 (by decide), one 3 (by decide), one 4 (by decide), one 5 (by decide), one 6 (by decide), one 7 (by decide), one 8 (by decide), one 9 (by decide)⟩
/-- lists that Spare made, each in a block of its own -/
structure Sf (w W : World) (T : List Br) : Prop where
  s : ∀ t ∈ T, Sl W t.a t.c t.l
  d : T.Pairwise brApart
  n : ∀ t ∈ T, New w none t.a
  b : Below w.heap.size w W
theorem Sf.nil {w W : World} (h : Below w.heap.size w W) : Sf w W [] := ⟨fun _ h => (List.not_mem_nil h).elim, List.Pairwise.nil, fun _ h => (List.not_mem_nil h).elim, h⟩
theorem Sf.keep {w W W' : World} {T : List Br} (h : Sf w W T) (hb : Below W.heap.size W W') : Sf w W' T := ⟨fun t ht => (h.s t ht).keep hb, h.d, h.n, bt h.b hb⟩
theorem Sl.lt {W : World} {a : Option Addr} {c : Nat} {l : List Nat} (h : Sl W a c l) {x : Addr} (hx : a = some x) : x.block < W.heap.size := h.rw'.lt hx
theorem Sf.app {w W W' : World} {T U : List Br} (h : Sf w W T) (k : Sf W W' U) : Sf w W' (T ++ U) := by
  have h1 := h.keep k.b
  refine ⟨fun t ht => ?_, List.pairwise_append.2 ⟨h.d, k.d, fun s hs t ht x y hx hy e => ?_⟩, fun t ht => ?_, h1.b⟩
  · rcases List.mem_append.1 ht with ht | ht
    · exact h1.s t ht
    · exact k.s t ht
  · have a1 := (h.s s hs).lt hx
    have a2 := (k.n t ht).at hy
    omega
  · rcases List.mem_append.1 ht with ht | ht
    · exact h.n t ht
    · exact (k.n t ht).mono h.b.size
theorem Sf.one {W W' : World} {g : Nat} {l : List Nat} (hb : Below W.heap.size W W') (hr : W'.rowIs g 5 (l.length + 64) (spF l)) (hg : W.heap.size ≤ g) (hn : l.length ≤ 1048576) (h8 : B8 l) : Sf W W' [⟨some ⟨g, 0, none⟩, l.length + 64, l⟩] :=
  ⟨fun t ht => by rw [List.mem_singleton.1 ht]; exact ⟨⟨g, rfl, hr⟩, rfl, hn, h8⟩, List.pairwise_singleton _ _, fun t ht => by rw [List.mem_singleton.1 ht]; exact newHere W g hg, hb⟩
theorem Sr.sf {w W : World} {q r : Rv} (h : Sr w W q r) : Sf w W q.rows :=
  ⟨fun t ht => by
    simp only [Rv.rows, List.mem_cons, List.not_mem_nil, or_false] at ht
    rcases ht with rfl | rfl
    · exact h.l
    · exact h.h, List.pairwise_cons.2 ⟨fun t ht => by rw [List.mem_singleton.1 ht]; exact h.ap, List.pairwise_singleton _ _⟩, fun t ht => by
    simp only [Rv.rows, List.mem_cons, List.not_mem_nil, or_false] at ht
    rcases ht with rfl | rfl
    · exact h.nl
    · exact h.nh, h.b⟩
theorem Sf.but {S : Nat → Prop} {w W W' : World} {T : List Br} (h : Sf w W T) (hb : But S W W') (hw : Below w.heap.size w W') (hn : ∀ t ∈ T, ∀ x, t.a = some x → ¬ S x.block) : Sf w W' T := ⟨fun t ht => (h.s t ht).but hb (hn t ht), h.d, h.n, hw⟩
theorem Sf.fam {w W : World} {T : List Br} (h : Sf w W T) : Fam w W T := ⟨fun t ht => ⟨⟨(h.s t ht).rw', h.n t ht, h.b⟩, (h.s t ht).l8⟩, h.d⟩
/-- a list of bytes lies in no block of another kind -/
theorem Rw.notKind {W : World} {a : Option Addr} {c : Nat} {l : List Nat} (h : Rw W a c l) {g : Nat} {cs : Array Value} {t : TypeId} (hg : W.heap[g]? = some (.cells cs t (0, 0))) (ht : t ≠ 5) {x : Addr} (hx : a = some x) : x.block ≠ g := by
  rcases h.cases with ⟨rfl, _⟩ | ⟨g', cur, rfl, hg', _⟩
  · cases hx
  · cases hx
    intro e
    dsimp only at e
    subst e
    rw [hg] at hg'
    simp only [Option.some.injEq, Obj.cells.injEq] at hg'
    exact ht hg'.2.1
theorem blk_keep {W W' : World} {g : Nat} {o : Obj} (h : W.heap[g]? = some o) (hb : Below W.heap.size W W') : W'.heap[g]? = some o := (hb.block _ (Array.getElem?_eq_some_iff.1 h).1).trans h
theorem blk_new {X W : World} {o : Obj} (hb : Below (X.alloc o).heap.size (X.alloc o) W) : W.heap[X.heap.size]? = some o := (hb.block _ (by rw [size_alloc]; omega)).trans (heap_alloc_new _ _)
/-- the two blocks of a call's copy -/
structure Pq (w W : World) (oc : Array Value) : Prop where
  m0 : W.heap[w.heap.size]? = some (.cells oc 29 (0, 0))
  m1 : W.heap[w.heap.size + 1]? = some (.cells #[.int .i64 0, .slice none 0 0, .slice none 0 0, .slice none 0 0, .slice none 0 0, .bool false, .slice none 0 0, .slice none 0 0, .bool false, .slice none 0 0] 29 (0, 0))
  b : Below w.heap.size w W
  s : w.heap.size + 2 ≤ W.heap.size
theorem Pq.keep {w W W' : World} {oc : Array Value} (h : Pq w W oc) (hb : Below W.heap.size W W') : Pq w W' oc := ⟨blk_keep h.m0 hb, blk_keep h.m1 hb, bt h.b hb, Nat.le_trans h.s hb.size⟩
theorem Pq.start {w W : World} {oc : Array Value} (hb : Below ((w.alloc (.cells oc 29)).alloc (.cells #[.int .i64 0, .slice none 0 0, .slice none 0 0, .slice none 0 0, .slice none 0 0, .bool false, .slice none 0 0, .slice none 0 0, .bool false, .slice none 0 0] 29)).heap.size ((w.alloc (.cells oc 29)).alloc (.cells #[.int .i64 0, .slice none 0 0, .slice none 0 0, .slice none 0 0, .slice none 0 0, .bool false, .slice none 0 0, .slice none 0 0, .bool false, .slice none 0 0] 29)) W) : Pq w W oc := by
  obtain ⟨h1, h2, h3, h4⟩ := two_blocks _ _ _ hb
  exact ⟨h1, h2, h3, h4⟩
theorem Pq.but {w W W' : World} {oc : Array Value} (h : Pq w W oc) {g : Nat} (hb : But (fun k => k = g) W W') (hg : w.heap.size + 2 ≤ g) : Pq w W' oc := by
  obtain ⟨h1, h2, h4, h5⟩ := h
  exact ⟨(hb.block _ (by omega) (by omega)).trans h1, (hb.block _ (by omega) (by omega)).trans h2,
    ((But.ofBelow (S := fun k => k = g) h4).trans hb fun _ _ e => e).below fun k hk e => by omega, Nat.le_trans h5 hb.size⟩
abbrev set10 (W : World) (g : Nat) (a0 a1 a2 a3 a4 a5 a6 a7 a8 a9 : Value) : World := (((((((((W.setCell ⟨g, 0, none⟩ a0).setCell ⟨g, 1, none⟩ a1).setCell ⟨g, 2, none⟩ a2).setCell ⟨g, 3, none⟩ a3).setCell ⟨g, 4, none⟩ a4).setCell ⟨g, 5, none⟩ a5).setCell ⟨g, 6, none⟩ a6).setCell ⟨g, 7, none⟩ a7).setCell ⟨g, 8, none⟩ a8).setCell ⟨g, 9, none⟩ a9
theorem set10_heap {W : World} {g : Nat} {t : TypeId} {b0 b1 b2 b3 b4 b5 b6 b7 b8 b9 : Value} (h : W.heap[g]? = some (.cells #[b0, b1, b2, b3, b4, b5, b6, b7, b8, b9] t (0, 0))) (a0 a1 a2 a3 a4 a5 a6 a7 a8 a9 : Value) : (set10 W g a0 a1 a2 a3 a4 a5 a6 a7 a8 a9).heap[g]? = some (.cells #[a0, a1, a2, a3, a4, a5, a6, a7, a8, a9] t (0, 0)) := by
  have h0 : (W.setCell ⟨g, 0, none⟩ a0).heap[g]? = some (.cells #[a0, b1, b2, b3, b4, b5, b6, b7, b8, b9] t (0, 0)) := heap_setCell_same _ g 0 _ _ _ h
  have h1 : ((W.setCell ⟨g, 0, none⟩ a0).setCell ⟨g, 1, none⟩ a1).heap[g]? = some (.cells #[a0, a1, b2, b3, b4, b5, b6, b7, b8, b9] t (0, 0)) := heap_setCell_same _ g 1 _ _ _ h0
  have h2 : (((W.setCell ⟨g, 0, none⟩ a0).setCell ⟨g, 1, none⟩ a1).setCell ⟨g, 2, none⟩ a2).heap[g]? = some (.cells #[a0, a1, a2, b3, b4, b5, b6, b7, b8, b9] t (0, 0)) := heap_setCell_same _ g 2 _ _ _ h1
  have h3 : ((((W.setCell ⟨g, 0, none⟩ a0).setCell ⟨g, 1, none⟩ a1).setCell ⟨g, 2, none⟩ a2).setCell ⟨g, 3, none⟩ a3).heap[g]? = some (.cells #[a0, a1, a2, a3, b4, b5, b6, b7, b8, b9] t (0, 0)) := heap_setCell_same _ g 3 _ _ _ h2
  have h4 : (((((W.setCell ⟨g, 0, none⟩ a0).setCell ⟨g, 1, none⟩ a1).setCell ⟨g, 2, none⟩ a2).setCell ⟨g, 3, none⟩ a3).setCell ⟨g, 4, none⟩ a4).heap[g]? = some (.cells #[a0, a1, a2, a3, a4, b5, b6, b7, b8, b9] t (0, 0)) := heap_setCell_same _ g 4 _ _ _ h3
  have h5 : ((((((W.setCell ⟨g, 0, none⟩ a0).setCell ⟨g, 1, none⟩ a1).setCell ⟨g, 2, none⟩ a2).setCell ⟨g, 3, none⟩ a3).setCell ⟨g, 4, none⟩ a4).setCell ⟨g, 5, none⟩ a5).heap[g]? = some (.cells #[a0, a1, a2, a3, a4, a5, b6, b7, b8, b9] t (0, 0)) := heap_setCell_same _ g 5 _ _ _ h4
  have h6 : (((((((W.setCell ⟨g, 0, none⟩ a0).setCell ⟨g, 1, none⟩ a1).setCell ⟨g, 2, none⟩ a2).setCell ⟨g, 3, none⟩ a3).setCell ⟨g, 4, none⟩ a4).setCell ⟨g, 5, none⟩ a5).setCell ⟨g, 6, none⟩ a6).heap[g]? = some (.cells #[a0, a1, a2, a3, a4, a5, a6, b7, b8, b9] t (0, 0)) := heap_setCell_same _ g 6 _ _ _ h5
  have h7 : ((((((((W.setCell ⟨g, 0, none⟩ a0).setCell ⟨g, 1, none⟩ a1).setCell ⟨g, 2, none⟩ a2).setCell ⟨g, 3, none⟩ a3).setCell ⟨g, 4, none⟩ a4).setCell ⟨g, 5, none⟩ a5).setCell ⟨g, 6, none⟩ a6).setCell ⟨g, 7, none⟩ a7).heap[g]? = some (.cells #[a0, a1, a2, a3, a4, a5, a6, a7, b8, b9] t (0, 0)) := heap_setCell_same _ g 7 _ _ _ h6
  have h8 : (((((((((W.setCell ⟨g, 0, none⟩ a0).setCell ⟨g, 1, none⟩ a1).setCell ⟨g, 2, none⟩ a2).setCell ⟨g, 3, none⟩ a3).setCell ⟨g, 4, none⟩ a4).setCell ⟨g, 5, none⟩ a5).setCell ⟨g, 6, none⟩ a6).setCell ⟨g, 7, none⟩ a7).setCell ⟨g, 8, none⟩ a8).heap[g]? = some (.cells #[a0, a1, a2, a3, a4, a5, a6, a7, a8, b9] t (0, 0)) := heap_setCell_same _ g 8 _ _ _ h7
  have h9 : ((((((((((W.setCell ⟨g, 0, none⟩ a0).setCell ⟨g, 1, none⟩ a1).setCell ⟨g, 2, none⟩ a2).setCell ⟨g, 3, none⟩ a3).setCell ⟨g, 4, none⟩ a4).setCell ⟨g, 5, none⟩ a5).setCell ⟨g, 6, none⟩ a6).setCell ⟨g, 7, none⟩ a7).setCell ⟨g, 8, none⟩ a8).setCell ⟨g, 9, none⟩ a9).heap[g]? = some (.cells #[a0, a1, a2, a3, a4, a5, a6, a7, a8, a9] t (0, 0)) := heap_setCell_same _ g 9 _ _ _ h8
  exact h9
theorem set10_but (W : World) (g : Nat) (a0 a1 a2 a3 a4 a5 a6 a7 a8 a9 : Value) : But (fun k => k = g) W (set10 W g a0 a1 a2 a3 a4 a5 a6 a7 a8 a9) := by
  have one : ∀ {X : World} (i : Nat) (v : Value), But (fun k => k = g) W X → But (fun k => k = g) W (X.setCell ⟨g, i, none⟩ v) := fun i v h => h.setCell (p := ⟨g, i, none⟩) (fun _ => rfl) v
  exact one 9 a9 (one 8 a8 (one 7 a7 (one 6 a6 (one 5 a5 (one 4 a4 (one 3 a3 (one 2 a2 (one 1 a1 (one 0 a0 (But.refl _ W))))))))))
theorem thaw {w : World} {g : Nat} {cs : Array Value} {t : TypeId} (h : w.heap[g]? = some (.cells cs t (0, 0))) (i : Nat) : w.frozen? ⟨g, i, none⟩ = false := frozen_of_row _ _ _ _ _ h
theorem ten10 {w : World} {g : Nat} {t : TypeId} {a0 a1 a2 a3 a4 a5 a6 a7 a8 a9 : Value} (h : w.heap[g]? = some (.cells #[a0, a1, a2, a3, a4, a5, a6, a7, a8, a9] t (0, 0))) : w.cell? ⟨g, 0, none⟩ = some a0 ∧ w.cell? ⟨g, 1, none⟩ = some a1 ∧ w.cell? ⟨g, 2, none⟩ = some a2 ∧ w.cell? ⟨g, 3, none⟩ = some a3 ∧ w.cell? ⟨g, 4, none⟩ = some a4 ∧ w.cell? ⟨g, 5, none⟩ = some a5 ∧ w.cell? ⟨g, 6, none⟩ = some a6 ∧ w.cell? ⟨g, 7, none⟩ = some a7 ∧ w.cell? ⟨g, 8, none⟩ = some a8 ∧ w.cell? ⟨g, 9, none⟩ = some a9 := by
  refine ⟨?_, ?_, ?_, ?_, ?_, ?_, ?_, ?_, ?_, ?_⟩ <;> rw [cell_of_row _ _ _ _ _ _ h] <;> rfl
end Go.Proofs.Ytbobnfjbbablkaa

namespace Go.Proofs.Ytbobnfjbbablkaa
open Go.RowKit

theorem Qc_replicate (n : Nat) : ∀ i, i < n * 3 → (Qc (List.replicate n Rv.zero))[i]? = Rv.zero.cs.toList[i % 3]? := by
  intro i hi
  have h := Qc_get (List.replicate n Rv.zero) (i / 3) (i % 3) (by rw [List.length_replicate]; omega) (by omega)
  rw [show i / 3 * 3 + i % 3 = i by omega] at h
  rw [h]
  congr 1
  have : (List.replicate n Rv.zero).getD (i / 3) Rv.zero = Rv.zero := by
    rw [List.getD_eq_getElem?_getD, List.getElem?_replicate]
    split <;> rfl
  rw [this]
theorem made_range (n : Nat) : (madeCells Rv.zero.cs (n * 3)).toList = Qc (List.replicate n Rv.zero) := by
  apply List.ext_getElem?
  intro i
  by_cases hi : i < n * 3
  · rw [Qc_replicate n i hi, Array.getElem?_toList]
    unfold madeCells
    simp [hi, Rv.zero, Rv.cs]
    have : i % 3 = 0 ∨ i % 3 = 1 ∨ i % 3 = 2 := by omega
    rcases this with h | h | h <;> rw [h] <;> rfl
  · rw [List.getElem?_eq_none (by simp [size_madeCells]; omega), List.getElem?_eq_none (by rw [Qc_length, List.length_replicate]; omega)]
theorem Qw.start {W : World} {n : Nat} (hn : n ≤ 1048579) : Qw (W.alloc (.cells (madeCells Rv.zero.cs (n * 3)) 26)) (some ⟨W.heap.size, 0, none⟩) n (List.replicate n Rv.zero) := by
  refine Qw.mk (heap_alloc_new _ _) (by simp) (by unfold maxLen; omega) (by simp [size_madeCells]) ?_
  rw [List.length_replicate, List.take_of_length_le (by simp [size_madeCells]), made_range]
theorem make_rng (n : Nat) (hn : n ≤ 1048579) (w : World) : (Instr.makeSlice 27 (.int .i64 (n : Int)) (.int .i64 (n : Int))).run Try.prog w = .ok (.slice (some ⟨w.heap.size, 0, none⟩) n n) (w.alloc (.cells (madeCells Rv.zero.cs (n * 3)) 26)) := by
  obtain ⟨i0, hi, hz0, hz1, hz2⟩ := info_parts infoRng
  have hr := run_make (P := Try.prog) w 27 26 i0 (.agg Rv.zero.cs) Try.underlying27 hi hz0 .i64 .i64 n n (by omega) (by omega) (by rw [hz2]; omega) (by omega)
  simp only [Int.toNat_natCast, hz1] at hr
  exact hr
theorem set_zero {D : List Rv} {n j : Nat} (hD : D.length = j) (hj : j < n) (v : Rv) : (D ++ List.replicate (n - j) Rv.zero).set j v = (D ++ [v]) ++ List.replicate (n - (j + 1)) Rv.zero := by
  subst hD
  rw [List.set_append_right _ _ (Nat.le_refl _), Nat.sub_self, show n - D.length = (n - (D.length + 1)) + 1 by omega, List.replicate_succ, List.set_cons_zero, List.append_assoc]
  rfl
theorem Qw.three {w : World} {g cap : Nat} {L : List Rv} (h : Qw w (some ⟨g, 0, none⟩) cap L) {k : Nat} (hk : k < L.length) : (w.cell? ⟨g, k * 3, none⟩ = some (.slice (L.getD k Rv.zero).aL (L.getD k Rv.zero).lo.length (L.getD k Rv.zero).cL) ∧ w.cell? ⟨g, k * 3 + 1, none⟩ = some (.slice (L.getD k Rv.zero).aH (L.getD k Rv.zero).hi.length (L.getD k Rv.zero).cH) ∧ w.cell? ⟨g, k * 3 + 2, none⟩ = some (.bool (L.getD k Rv.zero).op)) ∧ w.frozen? ⟨g, k * 3, none⟩ = false ∧ w.frozen? ⟨g, k * 3 + 1, none⟩ = false ∧ w.frozen? ⟨g, k * 3 + 2, none⟩ = false := by
  have hc : ∀ j u, j < 3 → (L.getD k Rv.zero).cs.toList[j]? = some u → w.cell? ⟨g, k * 3 + j, none⟩ = some u := fun j u hj hu => by
    have := h.cells (k * 3 + j) u (by rw [Qc_get L k j hk hj]; exact hu)
    rw [Addr.add_mid, Nat.zero_add] at this
    exact this
  exact ⟨⟨hc 0 _ (by decide) rfl, hc 1 _ (by decide) rfl, hc 2 _ (by decide) rfl⟩, h.thaw _, h.thaw _, h.thaw _⟩
end Go.Proofs.Ytbobnfjbbablkaa

namespace Go.Proofs.Ytbobnfjbbablkaa
open Go.RowKit

theorem blk_new3 {w W : World} {o p q : Obj} (hb : Below (((w.alloc o).alloc p).alloc q).drew.heap.size (((w.alloc o).alloc p).alloc q).drew W) : W.heap[w.heap.size + 1 + 1]? = some q := by
  have e : (((w.alloc o).alloc p).alloc q).heap.size = w.heap.size + 3 := by rw [size_alloc, size_alloc, size_alloc]
  refine (hb.block _ (by rw [drew_heap, e]; omega)).trans ?_
  rw [drew_heap]
  have := heap_alloc_new ((w.alloc o).alloc p) q
  rw [size_alloc, size_alloc] at this
  exact this
/-- a call's copy under way -/
structure Ws (w W : World) (oc c3 : Array Value) (g3 : Nat) (T : List Br) : Prop where
  p : Pq w W oc
  m3 : W.heap[g3]? = some (.cells c3 29 (0, 0))
  n3 : w.heap.size + 2 ≤ g3
  f : Sf w W T
theorem Ws.new {w W : World} {oc : Array Value} {T : List Br} (h : Pq w W oc) (f : Sf w W T) (c3 : Array Value) : Ws w (W.alloc (.cells c3 29)) oc c3 W.heap.size T := ⟨h.keep (al _ _), heap_alloc_new _ _, h.s, f.keep (al _ _)⟩
theorem Ws.set {w W : World} {oc : Array Value} {g3 : Nat} {T : List Br} {b0 b1 b2 b3 b4 b5 b6 b7 b8 b9 : Value} (h : Pq w W oc) (f : Sf w W T) (m : W.heap[g3]? = some (.cells #[b0, b1, b2, b3, b4, b5, b6, b7, b8, b9] 29 (0, 0))) (n : w.heap.size + 2 ≤ g3) (a0 a1 a2 a3 a4 a5 a6 a7 a8 a9 : Value) : Ws w (set10 W g3 a0 a1 a2 a3 a4 a5 a6 a7 a8 a9) oc #[a0, a1, a2, a3, a4, a5, a6, a7, a8, a9] g3 T := by
  have hb := set10_but W g3 a0 a1 a2 a3 a4 a5 a6 a7 a8 a9
  have hp := h.but hb n
  exact ⟨hp, set10_heap m a0 a1 a2 a3 a4 a5 a6 a7 a8 a9, n, f.but hb hp.b fun t ht x hx e => (f.s t ht).rw'.notKind m (by decide) hx e⟩
theorem but_setCells {S : Nat → Prop} {w w' : World} {b o : Nat} (h : But S w w') (hs : S b) (vs : List Value) : But S w (w'.setCells b o vs) := by
  induction vs generalizing w' o with
  | nil => exact h
  | cons v vs ih => exact ih (h.setCell (p := ⟨b, o, none⟩) (fun _ => hs) v)
theorem Ws.keep {w W W' : World} {oc c3 : Array Value} {g3 : Nat} {T : List Br} (h : Ws w W oc c3 g3 T) (hb : Below W.heap.size W W') : Ws w W' oc c3 g3 T := ⟨h.p.keep hb, blk_keep h.m3 hb, h.n3, h.f.keep hb⟩
theorem Ws.butM {w W W' : World} {oc c3 cs : Array Value} {g3 gM : Nat} {T : List Br} (h : Ws w W oc c3 g3 T) (hk : W.heap[gM]? = some (.cells cs 26 (0, 0))) (hn : w.heap.size + 2 ≤ gM) (hb : But (fun k => k = gM) W W') : Ws w W' oc c3 g3 T := by
  have hp := h.p.but hb hn
  refine ⟨hp, (hb.block _ (Array.getElem?_eq_some_iff.1 h.m3).1 fun e => ?_).trans h.m3, h.n3, h.f.but hb hp.b fun t ht x hx e => (h.f.s t ht).rw'.notKind hk (by decide) hx e⟩
  have h1 := h.m3
  rw [e, hk] at h1
  simp at h1
theorem Qw.kind {W : World} {g c : Nat} {L : List Rv} (h : Qw W (some ⟨g, 0, none⟩) c L) : ∃ cs, W.heap[g]? = some (.cells cs 26 (0, 0)) := by
  rcases h.cases with ⟨h0, _⟩ | ⟨g', cur, h0, hg, _⟩
  · cases h0
  · simp only [Option.some.injEq, Addr.mk.injEq] at h0
    obtain ⟨rfl, _⟩ := h0
    exact ⟨cur, hg⟩
/-- a mark behind the ranges -/
structure Mk (W : World) (i : Nat) (r : Rv) : Prop where
  e : r = ⟨r.aL, 2, [i % 256, 200], none, 0, [], true⟩
  o : Rw W r.aL 2 [i % 256, 200]
theorem Mk.keep {W W' : World} {i : Nat} {r : Rv} (h : Mk W i r) (hb : Below W.heap.size W W') : Mk W' i r := ⟨h.e, h.o.keep hb⟩
theorem Mk.ri {W : World} {i : Nat} {r : Rv} (h : Mk W i r) : Ri W r := by
  rw [h.e]
  exact ⟨h.o.bs (by intro x hx; simp only [List.mem_cons, List.not_mem_nil, or_false] at hx; rcases hx with rfl | rfl; exact Nat.mod_lt _ (by decide); decide) (by simp), Nat.le_refl _, Bs.nil _, Nat.le_refl _⟩
theorem Mk.but {W W' : World} {i g : Nat} {r : Rv} {cs : Array Value} (h : Mk W i r) (hk : W.heap[g]? = some (.cells cs 26 (0, 0))) (hb : But (fun k => k = g) W W') : Mk W' i r := ⟨h.e, h.o.but hb fun x hx e => h.o.notKind hk (by decide) hx e⟩
/-- what has been laid of the list of ranges -/
structure Wl (w W : World) (oc c3 : Array Value) (g3 gM n : Nat) (T : List Br) (M : List Rv) (j : Nat) (D : List Rv) : Prop where
  s : Ws w W oc c3 g3 (T ++ rowsOf (D.take M.length))
  q : Qw W (some ⟨gM, 0, none⟩) n (D ++ List.replicate (n - j) Rv.zero)
  l : D.length = j
  g : w.heap.size + 2 ≤ gM
  e : ∀ i, i < j → i < M.length → (D.getD i Rv.zero).rg = (M.getD i Rv.zero).rg
  k : ∀ i, i < j → M.length ≤ i → Mk W i (D.getD i Rv.zero)
theorem getD_snoc {D : List Rv} {j i : Nat} {v : Rv} (hl : D.length = j) (hi : i < j + 1) : (D ++ [v]).getD i Rv.zero = if i < j then D.getD i Rv.zero else v := by
  subst hl
  by_cases h : i < D.length
  · rw [if_pos h]; simp [List.getElem?_append_left h]
  · rw [if_neg h]
    obtain rfl : i = D.length := by omega
    simp
theorem Wl.spare {w W W2 : World} {oc c3 : Array Value} {g3 gM n : Nat} {T : List Br} {M : List Rv} {j : Nat} {D : List Rv} {q : Rv} (h : Wl w W oc c3 g3 gM n T M j D) (hj : j < M.length) (hn : M.length ≤ n) (hs : Sr W W2 q (M.getD j Rv.zero)) :
    Wl w (W2.setCells gM (j * 3) q.cs.toList) oc c3 g3 gM n T M (j + 1) (D ++ [q]) := by
  obtain ⟨h1, h2, h3, h4, h5, h6⟩ := h
  have q2 := h2.keep hs.b
  obtain ⟨cs, hk⟩ := q2.kind
  have hb := but_setCells (S := fun k => k = gM) (o := j * 3) (But.refl _ W2) rfl q.cs.toList
  have e1 : (D ++ [q]).take M.length = D ++ [q] := List.take_of_length_le (by rw [List.length_append, List.length_singleton]; omega)
  have e2 : D.take M.length = D := List.take_of_length_le (by omega)
  rw [e2] at h1
  have w2 : Ws w W2 oc c3 g3 (T ++ rowsOf (D ++ [q])) := by
    have k := h1.keep hs.b
    refine ⟨k.p, k.m3, k.n3, ?_⟩
    rw [rowsOf_append, rowsOf_one, ← List.append_assoc]
    exact h1.f.app hs.sf
  refine ⟨by rw [e1]; exact w2.butM hk h4 hb, ?_, by rw [List.length_append, List.length_singleton, h3], h4, fun i hi hM => ?_, fun i hi hM => by omega⟩
  · rw [← set_zero h3 (by omega)]
    exact q2.setv j q
  · rw [getD_snoc h3 hi]
    by_cases h : i < j
    · rw [if_pos h]; exact h5 i h hM
    · rw [if_neg h]
      obtain rfl : i = j := by omega
      exact hs.e
theorem Wl.mark {w W : World} {oc c3 : Array Value} {g3 gM n : Nat} {T : List Br} {M : List Rv} {j : Nat} {D : List Rv} (h : Wl w W oc c3 g3 gM n T M j D) (hj : M.length ≤ j) (hn : j < n) :
    Wl w ((W.alloc (.cells #[.int .u8 ((j % 256 : Nat) : Int), .int .u8 ((200 : Nat) : Int)] 5)).setCells gM (j * 3) (Rv.mk (some ⟨W.heap.size, 0, none⟩) 2 [j % 256, 200] none 0 [] true).cs.toList) oc c3 g3 gM n T M (j + 1) (D ++ [⟨some ⟨W.heap.size, 0, none⟩, 2, [j % 256, 200], none, 0, [], true⟩]) := by
  obtain ⟨h1, h2, h3, h4, h5, h6⟩ := h
  have hal := al W (.cells #[.int .u8 ((j % 256 : Nat) : Int), .int .u8 ((200 : Nat) : Int)] 5)
  have q2 := h2.keep hal
  obtain ⟨cs, hk⟩ := q2.kind
  have hb := but_setCells (S := fun k => k = gM) (o := j * 3) (But.refl _ (W.alloc (.cells #[.int .u8 ((j % 256 : Nat) : Int), .int .u8 ((200 : Nat) : Int)] 5))) rfl (Rv.mk (some ⟨W.heap.size, 0, none⟩) 2 [j % 256, 200] none 0 [] true).cs.toList
  have e1 : (D ++ [Rv.mk (some ⟨W.heap.size, 0, none⟩) 2 [j % 256, 200] none 0 [] true]).take M.length = D.take M.length := by rw [List.take_append_of_le_length (by omega)]
  have hmk : Mk (W.alloc (.cells #[.int .u8 ((j % 256 : Nat) : Int), .int .u8 ((200 : Nat) : Int)] 5)) j ⟨some ⟨W.heap.size, 0, none⟩, 2, [j % 256, 200], none, 0, [], true⟩ :=
    ⟨rfl, Rw.mk (heap_alloc_new _ _) (Nat.le_refl _) (by unfold maxLen; omega) rfl rfl⟩
  refine ⟨by rw [e1]; exact (h1.keep hal).butM hk h4 hb, ?_, by rw [List.length_append, List.length_singleton, h3], h4, fun i hi hM => ?_, fun i hi hM => ?_⟩
  · rw [← set_zero h3 hn]
    exact q2.setv j _
  · rw [getD_snoc h3 hi, if_pos (by omega)]; exact h5 i (by omega) hM
  · rw [getD_snoc h3 hi]
    by_cases h : i < j
    · rw [if_pos h]
      exact ((h6 i h hM).keep hal).but hk hb
    · rw [if_neg h]
      obtain rfl : i = j := by omega
      exact hmk.but hk hb
end Go.Proofs.Ytbobnfjbbablkaa
