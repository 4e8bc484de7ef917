import Derived.Test.YtmfelkncomfipaaDWE
namespace Go.Proofs.Ytmfelkncomfipaa
set_option linter.unusedVariables false
set_option linter.unusedSimpArgs false
open Go.RowKit
theorem cells12 {W : World} {b : Nat} {t : TypeId} {v0 v1 v2 v3 v4 v5 v6 v7 v8 v9 va vb : Value} (h : W.heap[b]? = some (.cells #[v0, v1, v2, v3, v4, v5, v6, v7, v8, v9, va, vb] t (0, 0))) : W.cell? ⟨b, 0, none⟩ = some v0 ∧ W.cell? ⟨b, 1, none⟩ = some v1 ∧ W.cell? ⟨b, 2, none⟩ = some v2 ∧ W.cell? ⟨b, 3, none⟩ = some v3 ∧ W.cell? ⟨b, 4, none⟩ = some v4 ∧ W.cell? ⟨b, 5, none⟩ = some v5 ∧ W.cell? ⟨b, 6, none⟩ = some v6 ∧ W.cell? ⟨b, 7, none⟩ = some v7 ∧ W.cell? ⟨b, 8, none⟩ = some v8 ∧ W.cell? ⟨b, 9, none⟩ = some v9 ∧ W.cell? ⟨b, 10, none⟩ = some va ∧ W.cell? ⟨b, 11, none⟩ = some vb := by
  refine ⟨?_, ?_, ?_, ?_, ?_, ?_, ?_, ?_, ?_, ?_, ?_, ?_⟩ <;> (rw [cell_of_row _ _ _ _ _ _ h]; rfl)
theorem Sp.row {w W : World} {p q : Pv} (h : Sp w W p q) {g : Nat} {c : Array Value} (hg : W.heap[g]? = some (.cells c 25 (0, 0))) (hl : w.heap.size ≤ g) (cs : Array Value) : Sp w (W.setRow g cs) p q := by
  obtain ⟨g0, D, e1, e2, e3, e4, e5⟩ := h.it
  have hb := but_setRow W g cs
  have bw := below_row cs h.b hl
  refine ⟨h.e, h.s.but hb bw (fun t ht x hx e => (h.s.s t ht).rw'.nty (show Bx W 25 g _ from hg) (by decide) hx e), ⟨g0, D, e1, e2, e3.but hb (fun x hx e => e3.nty (show Bx W 25 g _ from hg) (by decide) hx e), e4, e5⟩, bw⟩
theorem Sl.row {W : World} {a : Option Addr} {c : Nat} {l : List Nat} (h : Sl W a c l) {g : Nat} {c0 : Array Value} (hg : W.heap[g]? = some (.cells c0 25 (0, 0))) (cs : Array Value) : Sl (W.setRow g cs) a c l :=
  h.but (but_setRow W g cs) (fun x hx e => h.rw'.nty (show Bx W 25 g _ from hg) (by decide) hx e)
theorem joi_le {l r : Pg} {s : List Nat} : (joi l r s).1.items.length ≤ 8 := by
  unfold joi
  split
  · rename_i h
    simp only [Pg.wi, jnd, List.length_append, List.length_cons, List.length_drop]
    have := h.2
    omega
  · simp [Pg.zero]
/-- both pages and the separator, with room behind them -/
structure Nj (v W : World) (l r : Pv) (s : List Nat) (x y : Pv) (gk gA gB : Nat) : Prop where
  xa : W.heap[gA]? = some (.cells x.cs 25 (0, 0))
  xb : W.heap[gB]? = some (.cells y.cs 25 (0, 0))
  sx : Sp v W l x
  sy : Sp v W r y
  sk : Sl W (some ⟨gk, 0, none⟩) (s.length + 64) s
  b : Below v.heap.size v W
theorem Nj.keep {v W W' : World} {l r : Pv} {s : List Nat} {x y : Pv} {gk gA gB : Nat} (h : Nj v W l r s x y gk gA gB) (hb : Below W.heap.size W W') : Nj v W' l r s x y gk gA gB := ⟨blk_keep h.xa hb, blk_keep h.xb hb, h.sx.keep hb, h.sy.keep hb, h.sk.keep hb, bt h.b hb⟩
end Go.Proofs.Ytmfelkncomfipaa
