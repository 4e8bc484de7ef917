import Derived.Test.YtifhkfghjifecaaNB
import Derived.Test.YtifhkfghjifecaaVB
import Derived.Deep.RegionHeld3
namespace Go.Proofs.Ytifhkfghjifecaa
open Go.RowKit

theorem own_but {T : Nat → Prop} {w w' : World} {e s n : Nat} {a : Option Addr} {m c : Nat} {C : List Value} (h : w.ownsRow 0 e s (.slice a m c) n C) (hb : But T w w') (hn : ∀ x, a = some x → ¬ T x.block) : w'.ownsRow 0 e s (.slice a m c) n C := by
  obtain ⟨h1, h2⟩ := h
  refine ⟨h1, ?_⟩
  rcases h2 with ⟨hv, h0⟩ | ⟨g, cap', cur, hv, h3, hg, hr⟩
  · exact .inl ⟨hv, h0⟩
  · simp only [Value.slice.injEq] at hv
    exact .inr ⟨g, cap', cur, by simp only [Value.slice.injEq]; exact hv, h3, (hb.block g (Array.getElem?_eq_some_iff.1 hg).1 (hn _ hv.1)).trans hg, hr⟩
def vi (l : List Int) : List Value := l.map fun x => Value.int .i64 x
theorem vi_append (a b : List Int) : vi (a ++ b) = vi a ++ vi b := by unfold vi; rw [List.map_append]
theorem vi_length (a : List Int) : (vi a).length = a.length := by unfold vi; rw [List.length_map]
theorem vi_get (l : List Int) (i : Nat) (hi : i < l.length) : (vi l)[i]? = some (.int .i64 (l.getD i 0)) := by simp [vi, hi]
/-- numbers in a block of their own, or nil -/
def Ig (w : World) (a : Option Addr) (cap : Nat) (l : List Int) : Prop := w.ownsRow 0 3 1 (.slice a l.length cap) l.length (vi l)
theorem infoI64 : (Try.prog.info? 3).map (fun i => (i.zero, i.size, i.bytes)) = some (some (.int .i64 0), 1, 8) := by kernel_rfl
theorem Ig.nil (w : World) : Ig w none 0 [] := World.ownsRow_nil w 0 3 1
theorem Ig.keep {w w' : World} {a : Option Addr} {cap : Nat} {l : List Int} (h : Ig w a cap l) (hb : Below w.heap.size w w') : Ig w' a cap l := own_but (T := fun _ => False) h (But.ofBelow hb) (fun _ _ h => h)
/-- numbers that can be read -/
def Ir (w : World) (a : Option Addr) (l : List Int) : Prop := l = [] ∨ ∃ b off, a = some ⟨b, off, none⟩ ∧ ∀ i, i < l.length → w.cell? ⟨b, off + i, none⟩ = some (.int .i64 (l.getD i 0))
theorem Ir.keep {w w' : World} {a : Option Addr} {l : List Int} (h : Ir w a l) (hb : Below w.heap.size w w') : Ir w' a l := by
  rcases h with h | ⟨b, off, rfl, hc⟩
  · exact .inl h
  · exact .inr ⟨b, off, rfl, fun i hi => (hb.cell (p := ⟨b, off + i, none⟩) (block_lt_of_cell (hc i hi))).trans (hc i hi)⟩
theorem Ig.but {S : Nat → Prop} {w w' : World} {a : Option Addr} {cap : Nat} {l : List Int} (h : Ig w a cap l) (hb : But S w w') (hn : ∀ x, a = some x → ¬ S x.block) : Ig w' a cap l := own_but h hb hn
theorem Ir.at {w : World} {a : Option Addr} {l : List Int} (h : Ir w a l) {j : Nat} (hj : j < l.length) : ∃ b off, a = some ⟨b, off, none⟩ ∧ w.cell? ⟨b, off + j, none⟩ = some (.int .i64 (l.getD j 0)) := by
  rcases h with rfl | ⟨b, off, rfl, hc⟩
  · simp at hj
  · exact ⟨b, off, rfl, hc j hj⟩
theorem Ig.ir {w : World} {a : Option Addr} {cap : Nat} {l : List Int} (h : Ig w a cap l) : Ir w a l := by
  obtain ⟨_, h2⟩ := h
  rcases h2 with ⟨_, h0⟩ | ⟨g, cap', cur, hv, h3, hg, hn, hm, hs, ht⟩
  · exact .inl (List.length_eq_zero_iff.1 h0)
  · simp only [Value.slice.injEq] at hv
    obtain ⟨e1, _, rfl⟩ := hv
    refine .inr ⟨g, 0, e1, fun i hi => ?_⟩
    rw [Nat.zero_add, cell_of_row _ _ _ _ _ _ hg, ← vi_get l i hi, ← ht, List.getElem?_take, if_pos (by omega)]
    simp
/-- a row of numbers of the call's own -/
structure IOwn (w wx : World) (a : Option Addr) (cap : Nat) (l : List Int) : Prop where
  r : Ig wx a cap l
  n : New w none a
  b : Below w.heap.size w wx
theorem IOwn.keep {w wx wy : World} {a : Option Addr} {cap : Nat} {l : List Int} (h : IOwn w wx a cap l) (hb : Below wx.heap.size wx wy) : IOwn w wy a cap l := ⟨h.r.keep hb, h.n, bt h.b hb⟩
theorem IOwn.step {w wx w1 wy : World} {a a' : Option Addr} {cap cap' : Nat} {l l' : List Int} (h : IOwn w wx a cap l) (hb : Below wx.heap.size wx w1) (hR : Ig wy a' cap' l') (hN : New w1 a a') (hg : w1.grownBy wy (a.map Addr.block)) : IOwn w wy a' cap' l' := by
  refine ⟨hR, h.n.trans hN (Nat.le_trans h.b.size hb.size), ?_⟩
  have h1 := bt h.b hb
  have hh : But (fun _ => False) w wy := (But.ofBelow h1).grown hg fun k hk hlt => by
    obtain ⟨y, hy, e⟩ := map_some hk
    rcases h.n y hy with ⟨z, hz, _⟩ | h2
    · cases hz
    · omega
  exact hh.below fun _ _ h => h
theorem Ig.cases {w : World} {a : Option Addr} {cap : Nat} {l : List Int} (h : Ig w a cap l) : (a = none ∧ cap = 0 ∧ l = []) ∨
    ∃ g cur, a = some ⟨g, 0, none⟩ ∧ w.heap[g]? = some (.cells cur 3 (0, 0)) ∧ l.length ≤ cap ∧ cap ≤ maxLen ∧ cur.size = cap ∧ cur.toList.take l.length = vi l := by
  obtain ⟨_, h2⟩ := h
  rcases h2 with ⟨hv, h0⟩ | ⟨g, cap', cur, hv, _, hg, hn, hm, hs, ht⟩
  · simp only [Value.slice.injEq] at hv
    exact .inl ⟨hv.1, hv.2.2, List.length_eq_zero_iff.1 h0⟩
  · simp only [Value.slice.injEq] at hv
    obtain ⟨h1, _, rfl⟩ := hv
    exact .inr ⟨g, cur, h1, hg, hn, hm, by omega, by rw [Nat.mul_one] at ht; exact ht⟩
theorem Ig.mk {w : World} {g cap : Nat} {cur : Array Value} {l : List Int} (hg : w.heap[g]? = some (.cells cur 3 (0, 0))) (hn : l.length ≤ cap) (hm : cap ≤ maxLen) (hs : cur.size = cap) (ht : cur.toList.take l.length = vi l) : Ig w (some ⟨g, 0, none⟩) cap l :=
  ⟨by rw [vi_length, Nat.mul_one], .inr ⟨g, cap, cur, rfl, Nat.zero_le _, hg, hn, hm, by omega, by rw [Nat.mul_one]; exact ht⟩⟩
theorem Ig.lt {w : World} {a : Option Addr} {cap : Nat} {l : List Int} (h : Ig w a cap l) {x : Addr} (hx : a = some x) : x.block < w.heap.size := by
  rcases h.cases with ⟨rfl, _⟩ | ⟨g, cur, rfl, hg, _⟩
  · cases hx
  · cases hx; exact (Array.getElem?_eq_some_iff.1 hg).1
theorem Ig.cell {w : World} {g cap : Nat} {l : List Int} (h : Ig w (some ⟨g, 0, none⟩) cap l) {i : Nat} (hi : i < l.length) : w.cell? ⟨g, i, none⟩ = some (.int .i64 (l.getD i 0)) := by
  rcases h.cases with ⟨h0, _⟩ | ⟨g', cur, h0, hg, h1, h2, h3, h4⟩
  · cases h0
  · simp only [Option.some.injEq, Addr.mk.injEq] at h0
    obtain ⟨rfl, _⟩ := h0
    rw [cell_of_row _ _ _ _ _ _ hg, ← vi_get l i hi, ← h4, List.getElem?_take, if_pos hi]
    simp
theorem Ig.len_le {w : World} {a : Option Addr} {cap : Nat} {l : List Int} (h : Ig w a cap l) : l.length ≤ 9223372036854775807 := by
  rcases h.cases with ⟨rfl, rfl, rfl⟩ | ⟨g, cur, rfl, hg, h1, h2, h3, h4⟩
  · simp
  · unfold maxLen at h2; omega
theorem Ig.set {w : World} {g cap : Nat} {l : List Int} (h : Ig w (some ⟨g, 0, none⟩) cap l) (k : Nat) (v : Int) : Ig (w.setCell ⟨g, k, none⟩ (.int .i64 v)) (some ⟨g, 0, none⟩) cap (l.set k v) := by
  rcases h.cases with ⟨h0, _⟩ | ⟨g', cur, h0, hg, h1, h2, h3, h4⟩
  · cases h0
  · simp only [Option.some.injEq, Addr.mk.injEq] at h0
    obtain ⟨rfl, _⟩ := h0
    refine Ig.mk (heap_setCell_same w g k _ _ _ hg) (by rw [List.length_set]; exact h1) h2 (by simpa using h3) ?_
    rw [List.length_set, Array.toList_setIfInBounds, List.take_set, h4]
    simp only [vi, List.map_set]
theorem Ir.but {T : Nat → Prop} {w w' : World} {a : Option Addr} {l : List Int} (h : Ir w a l) (hb : But T w w') (hn : ∀ x, a = some x → l ≠ [] → ¬ T x.block) : Ir w' a l := by
  by_cases h0 : l = []
  · exact .inl h0
  rcases h with h | ⟨b, off, rfl, hc⟩
  · exact .inl h
  · exact .inr ⟨b, off, rfl, fun i hi => (hb.cell (p := ⟨b, off + i, none⟩) (block_lt_of_cell (hc i hi)) (show ¬ T b from hn ⟨b, off, none⟩ rfl h0)).trans (hc i hi)⟩
end Go.Proofs.Ytifhkfghjifecaa
