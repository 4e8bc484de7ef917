import Derived.Test.YtifhkfghjifecaaIX
namespace Go.Proofs.Ytifhkfghjifecaa
open Go.RowKit

/-! ### a superblock with lists of its own -/
def mkR (i : Nat) : Ro := ⟨-5 - (i : Int), 0, 0, 0⟩
def spW (L : List Ro) : List Ro := L ++ [mkR L.length, mkR (L.length + 1)]
def spJ (L : List Ro) (j : Nat) : List Ro := (spW L).take j ++ List.replicate (L.length + 2 - j) ro0
theorem spW_length (L : List Ro) : (spW L).length = L.length + 2 := by unfold spW; simp
theorem spJ_zero (L : List Ro) : spJ L 0 = List.replicate (L.length + 2) ro0 := by unfold spJ; simp
theorem spJ_all (L : List Ro) : spJ L (L.length + 2) = spW L := by unfold spJ; rw [List.take_of_length_le (by rw [spW_length]; omega)]; simp
theorem spJ_length (L : List Ro) {j : Nat} (h : j ≤ L.length + 2) : (spJ L j).length = L.length + 2 := by
  unfold spJ
  rw [List.length_append, List.length_take, List.length_replicate, spW_length]
  omega
theorem spJ_set (L : List Ro) {j : Nat} (h : j < L.length + 2) : (spJ L j).set j ((spW L).getD j ro0) = spJ L (j + 1) := by
  have hl : ((spW L).take j).length = j := by rw [List.length_take, spW_length]; omega
  have hj : j < (spW L).length := by rw [spW_length]; exact h
  unfold spJ
  rw [set_zero hl h, List.take_succ_eq_append_getElem hj]
  simp [hj]
theorem spW_lt (L : List Ro) {j : Nat} (h : j < L.length) : (spW L).getD j ro0 = L.getD j ro0 := by
  unfold spW
  simp [List.getElem?_append_left h]
theorem spW_ge (L : List Ro) {j : Nat} (h : L.length ≤ j) (h2 : j < L.length + 2) : (spW L).getD j ro0 = mkR j := by
  have : j = L.length ∨ j = L.length + 1 := by omega
  unfold spW
  rcases this with rfl | rfl
  · simp
  · simp
theorem Jw.pre {w : World} {g cap : Nat} {L M : List Ro} (h : Jw w (some ⟨g, 0, none⟩) cap (L ++ M)) : Jw w (some ⟨g, 0, none⟩) cap L := by
  rcases h.front with h | h
  · exact h
  · cases h
theorem nest4r (W : World) (g o : Nat) (t : Ro) : W.setCells g o t.cs.toList = (((W.setCell ⟨g, o, none⟩ (.int .i64 t.id)).setCell ⟨g, o + 1, none⟩ (.int .i64 t.r)).setCell ⟨g, o + 2, none⟩ (.int .i64 t.h)).setCell ⟨g, o + 3, none⟩ (.int .i64 t.n) := rfl
/-- the boxes of spare -/
structure Sq (w : World) (s : Su) (a : Option Addr) (c : Nat) (W : World) (L : List Ro) : Prop where
  x : Bx W 28 w.heap.size (suC s a c)
  o : Bx W 28 (w.heap.size + 1) z6
  j : Jw W (some ⟨w.heap.size + 1 + 1, 0, none⟩) (s.rs.length + 2) L
  b : Below w.heap.size w W
theorem Sq.keep {w : World} {s : Su} {a : Option Addr} {c : Nat} {W W' : World} {L : List Ro} (h : Sq w s a c W L) (hb : Below W.heap.size W W') : Sq w s a c W' L := ⟨h.x.keep hb, h.o.keep hb, h.j.keep hb, bt h.b hb⟩
theorem Sq.set {w : World} {s : Su} {a : Option Addr} {c : Nat} {W : World} {L : List Ro} (h : Sq w s a c W L) (k : Nat) (t : Ro) : Sq w s a c (W.setCells (w.heap.size + 1 + 1) (k * 4) t.cs.toList) (L.set k t) :=
  ⟨h.x.but (but_setCells _ _ _ _) (by omega), h.o.but (but_setCells _ _ _ _) (by omega), h.j.setv k t, ((But.ofBelow (S := fun _ => False) h.b).trans (but_setCells _ _ _ _) fun x hx e => by omega).below fun _ _ h => h⟩
theorem Sq.start (w : World) (s : Su) (a : Option Addr) (c : Nat) (hn : s.rs.length + 2 ≤ 4398046511000) : Sq w s a c (((w.alloc (.cells (suC s a c) 28)).alloc (.cells z6 28)).alloc (.cells (madeCells ro0.cs ((s.rs.length + 2) * 4)) 59)) (spJ s.rs 0) := by
  refine ⟨((Bx.new w 28 _).keep (al _ _)).keep (al _ _), ?_, ?_, bt (bt (al w _) (al _ _)) (al _ _)⟩
  · have := (Bx.new (w.alloc (.cells (suC s a c) 28)) 28 z6).keep (al _ (.cells (madeCells ro0.cs ((s.rs.length + 2) * 4)) 59))
    rwa [size_alloc] at this
  · have := Jw.start (W := (w.alloc (.cells (suC s a c) 28)).alloc (.cells z6 28)) hn
    rw [size_alloc, size_alloc] at this
    rw [spJ_zero]
    exact this
/-- what a row of such a list is -/
theorem Sq.facts {w : World} {s : Su} {a : Option Addr} {c : Nat} {W : World} {L : List Ro} (h : Sq w s a c W L) {k : Nat} (hk : k < L.length) :
    (∃ v, W.cell? ⟨w.heap.size + 1 + 1, k * 4, none⟩ = some v) ∧ (∃ v, W.cell? ⟨w.heap.size + 1 + 1, k * 4 + 1, none⟩ = some v) ∧ (∃ v, W.cell? ⟨w.heap.size + 1 + 1, k * 4 + 2, none⟩ = some v) ∧ (∃ v, W.cell? ⟨w.heap.size + 1 + 1, k * 4 + 3, none⟩ = some v) ∧
    W.frozen? ⟨w.heap.size + 1 + 1, k * 4, none⟩ = false ∧ W.frozen? ⟨w.heap.size + 1 + 1, k * 4 + 1, none⟩ = false ∧ W.frozen? ⟨w.heap.size + 1 + 1, k * 4 + 2, none⟩ = false ∧ W.frozen? ⟨w.heap.size + 1 + 1, k * 4 + 3, none⟩ = false ∧ W.cell? ⟨w.heap.size, 5, none⟩ = some (.slice a s.rs.length c) := by
  have HT := h.j.four hk
  exact ⟨Option.isSome_iff_exists.1 (HT 0 (by omega)).1, Option.isSome_iff_exists.1 (HT 1 (by omega)).1, Option.isSome_iff_exists.1 (HT 2 (by omega)).1, Option.isSome_iff_exists.1 (HT 3 (by omega)).1, (HT 0 (by omega)).2, (HT 1 (by omega)).2, (HT 2 (by omega)).2, (HT 3 (by omega)).2, h.x.cell 5 rfl⟩
/-- a superblock that spare made -/
structure Sx (w w' : World) (g : Nat) (s : Su) : Prop where
  j : Jw w' (some ⟨g, 0, none⟩) (s.rs.length + 2) (spW s.rs)
  n : w.heap.size ≤ g
  b : Below w.heap.size w w'
theorem Sx.js {w w' : World} {g : Nat} {s : Su} (h : Sx w w' g s) : Js w' (some ⟨g, 0, none⟩) s.rs := (h.j.pre).qs
theorem Sx.keep {w w' w2 : World} {g : Nat} {s : Su} (h : Sx w w' g s) (hb : Below w'.heap.size w' w2) : Sx w w2 g s := ⟨h.j.keep hb, h.n, bt h.b hb⟩
theorem Sx.pre {w w0 w' : World} {g : Nat} {s : Su} (hb : Below w.heap.size w w0) (h : Sx w0 w' g s) : Sx w w' g s := ⟨h.j, Nat.le_trans hb.size h.n, bt hb h.b⟩
end Go.Proofs.Ytifhkfghjifecaa
