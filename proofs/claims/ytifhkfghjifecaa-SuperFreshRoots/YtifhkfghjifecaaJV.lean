import Derived.Test.YtifhkfghjifecaaJU
import Derived.Test.YtifhkfghjifecaaJK
import Derived.Test.YtifhkfghjifecaaJJ
import Derived.Test.YtifhkfghjifecaaNYK
namespace Go.Proofs.Ytifhkfghjifecaa
open Go.RowKit

def Br0 : Br := ⟨none, 0, []⟩
def tA (T : List Br) (i : Nat) : Option Addr := (T.getD i Br0).a
def tC (T : List Br) (i : Nat) : Nat := (T.getD i Br0).c
def tL (T : List Br) (i : Nat) : List Nat := (T.getD i Br0).l
theorem t_mem {T : List Br} {i : Nat} (h : i < T.length) : T.getD i Br0 ∈ T := by simp [h]
theorem Fam.rowsG {w W : World} {T : List Br} (h : Fam w W T) : RowsG W T.length (tA T) (tC T) (tL T) := fun _ hi => (h.own _ (t_mem hi)).1.r
theorem Fam.distG {w W : World} {T : List Br} (h : Fam w W T) : Dist T.length (tA T) := by
  intro i j hi hj hne x y hx hy
  have hp := List.pairwise_iff_getElem.1 h.dist
  have ei : T.getD i Br0 = T[i] := by simp [hi]
  have ej : T.getD j Br0 = T[j] := by simp [hj]
  unfold tA at hx hy
  rw [ei] at hx
  rw [ej] at hy
  rcases Nat.lt_or_gt_of_ne hne with h1 | h1
  · exact hp i j hi hj h1 x y hx hy
  · exact fun e => hp j i hj hi h1 y x hy hx e.symm
theorem bv_get (T : List Br) {i : Nat} (hi : i < T.length) : (T.map bv)[i]? = some (.slice (tA T i) (tL T i).length (tC T i)) := by
  simp [hi, bv, tA, tL, tC]
theorem rows_val (T : List Br) : T.map bv = (List.range T.length).map (fun i => Value.slice (tA T i) (tL T i).length (tC T i)) := by
  apply List.ext_getElem?
  intro i
  by_cases hi : i < T.length
  · rw [bv_get _ hi]; simp only [List.getElem?_map, List.getElem?_range hi, Option.map_some]
  · rw [List.getElem?_eq_none (by rw [List.length_map]; omega), List.getElem?_eq_none (by rw [List.length_map, List.length_range]; omega)]
theorem Fam.one {w W : World} {a : Option Addr} {c : Nat} {l : List Nat} (h : Own w W a c l) (h8 : B8 l) : Fam w W [⟨a, c, l⟩] :=
  ⟨fun t ht => by rw [List.mem_singleton] at ht; subst ht; exact ⟨h, h8⟩, List.pairwise_singleton _ _⟩
theorem Fam.snoc {w W W' : World} {T : List Br} {a : Option Addr} {c : Nat} {l : List Nat} (h : Fam w W T) (hw : Below w.heap.size w W) (k : Own W W' a c l) (h8 : B8 l) : Fam w W' (T ++ [⟨a, c, l⟩]) :=
  h.add (Fam.one k h8) k.b hw
/-- no list of bytes lies where roots lie -/
theorem Jw.offB {w : World} {g cap : Nat} {L : List Ro} (h : Jw w (some ⟨g, 0, none⟩) cap L) {a : Option Addr} {c : Nat} {l : List Nat} (hR : Rw w a c l) {x : Addr} (hx : a = some x) : ¬ x.block = g := by
  rintro rfl
  rcases hR.cases with ⟨rfl, _⟩ | ⟨g', cur, rfl, hg, _⟩
  · cases hx
  · cases hx
    rcases h.cases with ⟨h0, _⟩ | ⟨g2, cur2, h0, hg2, _⟩
    · cases h0
    · cases h0
      dsimp only at hg2
      rw [hg] at hg2
      simp only [Option.some.injEq, Obj.cells.injEq] at hg2
      exact absurd hg2.2.1 (by decide)
/-- what is held while the roots are being written over -/
structure Fz (w W : World) (s t : Su) (a' : Option Addr) (c' g1 g5 : Nat) (T : List Br) (Y : List Ro) : Prop where
  b3 : Bx W 28 (w.heap.size + 1) (suC t a' c')
  b5 : Bx W 28 g5 (suC s (some ⟨g1, 0, none⟩) (s.rs.length + 2))
  y : Jw W (some ⟨g1, 0, none⟩) (s.rs.length + 2) Y
  yl : Y.length = s.rs.length + 2
  f : Fam w W T
  b : Below w.heap.size w W
  ge : w.heap.size ≤ g1
theorem Fz.keep {w W W' : World} {s t : Su} {a' : Option Addr} {c' g1 g5 : Nat} {T : List Br} {Y : List Ro} (h : Fz w W s t a' c' g1 g5 T Y) (hb : Below W.heap.size W W') : Fz w W' s t a' c' g1 g5 T Y :=
  ⟨h.b3.keep hb, h.b5.keep hb, h.y.keep hb, h.yl, h.f.keep hb, bt h.b hb, h.ge⟩
theorem Fz.set {w W : World} {s t : Su} {a' : Option Addr} {c' g1 g5 : Nat} {T : List Br} {Y : List Ro} (h : Fz w W s t a' c' g1 g5 T Y) (k : Nat) (r : Ro) :
    Fz w (W.setCells g1 (k * 4) r.cs.toList) s t a' c' g1 g5 T (Y.set k r) := by
  have hB : But (fun x => x = g1) W (W.setCells g1 (k * 4) r.cs.toList) := but_setCells _ _ _ _
  have hb : Below w.heap.size w (W.setCells g1 (k * 4) r.cs.toList) := ((But.ofBelow (S := fun _ => False) h.b).trans hB fun x hx e => by have := h.ge; omega).below fun _ _ h => h
  exact ⟨h.b3.but hB fun e => h.y.off h.b3 (by decide) g1 rfl e.symm, h.b5.but hB fun e => h.y.off h.b5 (by decide) g1 rfl e.symm, h.y.setv k r, by rw [List.length_set]; exact h.yl, h.f.but hB hb fun t ht x hx => h.y.offB (h.f.own t ht).1.r hx, hb, h.ge⟩
theorem Fz.facts {w W : World} {s t : Su} {a' : Option Addr} {c' g1 g5 : Nat} {T : List Br} {Y : List Ro} (h : Fz w W s t a' c' g1 g5 T Y) {k : Nat} (hk : k < Y.length) :
    (∃ v, W.cell? ⟨g1, k * 4, none⟩ = some v) ∧ (∃ v, W.cell? ⟨g1, k * 4 + 1, none⟩ = some v) ∧ (∃ v, W.cell? ⟨g1, k * 4 + 2, none⟩ = some v) ∧ (∃ v, W.cell? ⟨g1, k * 4 + 3, none⟩ = some v) ∧
    W.frozen? ⟨g1, k * 4, none⟩ = false ∧ W.frozen? ⟨g1, k * 4 + 1, none⟩ = false ∧ W.frozen? ⟨g1, k * 4 + 2, none⟩ = false ∧ W.frozen? ⟨g1, k * 4 + 3, none⟩ = false := by
  have HT := h.y.four hk
  exact ⟨Option.isSome_iff_exists.1 (HT 0 (by omega)).1, Option.isSome_iff_exists.1 (HT 1 (by omega)).1, Option.isSome_iff_exists.1 (HT 2 (by omega)).1, Option.isSome_iff_exists.1 (HT 3 (by omega)).1, (HT 0 (by omega)).2, (HT 1 (by omega)).2, (HT 2 (by omega)).2, (HT 3 (by omega)).2⟩
end Go.Proofs.Ytifhkfghjifecaa
