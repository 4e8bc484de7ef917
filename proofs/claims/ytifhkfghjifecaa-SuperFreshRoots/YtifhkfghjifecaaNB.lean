import Derived.Test.YtifhkfghjifecaaPZD
import Derived.Test.YtifhkfghjifecaaNZ
import Derived.Deep.MidRow
import Derived.Laws.ResultCell
namespace Go.Proofs.Ytifhkfghjifecaa
open Go.RowKit

def N64 (x : Int) : Prop := -9223372036854775808 ≤ x ∧ x ≤ 9223372036854775807
structure Br where
  a : Option Addr
  c : Nat
  l : List Nat
def brApart (s t : Br) : Prop := ∀ x y, s.a = some x → t.a = some y → x.block ≠ y.block
theorem brApart.symm {s t : Br} (h : brApart s t) : brApart t s := fun x y hx hy e => h y x hy hx e.symm
structure Fam (w W : World) (T : List Br) : Prop where
  own : ∀ t ∈ T, Own w W t.a t.c t.l ∧ B8 t.l
  dist : T.Pairwise brApart
theorem Fam.nil (w W : World) : Fam w W [] := ⟨fun _ h => (List.not_mem_nil h).elim, List.Pairwise.nil⟩
theorem Fam.keep {w W W' : World} {T : List Br} (h : Fam w W T) (hb : Below W.heap.size W W') : Fam w W' T := ⟨fun t ht => ⟨(h.own t ht).1.keep hb, (h.own t ht).2⟩, h.dist⟩
theorem Fam.pre {w w0 W : World} {T : List Br} (hb : Below w.heap.size w w0) (h : Fam w0 W T) : Fam w W T := ⟨fun t ht => ⟨Own.pre hb (h.own t ht).1, (h.own t ht).2⟩, h.dist⟩
theorem Fam.add {w W W' : World} {T U : List Br} (h : Fam w W T) (k : Fam W W' U) (hb : Below W.heap.size W W') (hw : Below w.heap.size w W) : Fam w W' (T ++ U) := by
  refine ⟨fun t ht => ?_, List.pairwise_append.2 ⟨h.dist, k.dist, fun s hs t ht x y hx hy e => ?_⟩⟩
  · rcases List.mem_append.1 ht with ht | ht
    · exact ⟨(h.own t ht).1.keep hb, (h.own t ht).2⟩
    · exact ⟨Own.pre hw (k.own t ht).1, (k.own t ht).2⟩
  · have h1 := (h.own s hs).1.r.lt hx
    have h2 := (k.own t ht).1.fresh hy
    omega
theorem Fam.sub {w W : World} {T U : List Br} (h : Fam w W T) (hs : U.Sublist T) : Fam w W U := ⟨fun t ht => h.own t (hs.subset ht), h.dist.sublist hs⟩
theorem Fam.perm {w W : World} {T U : List Br} (h : Fam w W T) (hp : U.Perm T) : Fam w W U := ⟨fun t ht => h.own t (hp.subset ht), (hp.pairwise_iff fun h => brApart.symm h).2 h.dist⟩
theorem Own.but {S : Nat → Prop} {w W W' : World} {a : Option Addr} {cap : Nat} {l : List Nat} (h : Own w W a cap l) (hb : But S W W') (hw : Below w.heap.size w W') (hn : ∀ x, a = some x → ¬ S x.block) : Own w W' a cap l := ⟨h.r.but hb hn, h.n, hw⟩
theorem Fam.but {S : Nat → Prop} {w W W' : World} {T : List Br} (h : Fam w W T) (hb : But S W W') (hw : Below w.heap.size w W') (hn : ∀ t ∈ T, ∀ x, t.a = some x → ¬ S x.block) : Fam w W' T := ⟨fun t ht => ⟨(h.own t ht).1.but hb hw (hn t ht), (h.own t ht).2⟩, h.dist⟩
theorem beqd (a b : Int) : (a == b) = decide (a = b) := by
  by_cases h : a = b
  · subst h; simp
  · simp [h]
/-- a struct that is boxed -/
def Bx (w : World) (t : TypeId) (g : Nat) (cs : Array Value) : Prop := w.heap[g]? = some (.cells cs t (0, 0))
theorem Bx.cell {w : World} {t : TypeId} {g : Nat} {cs : Array Value} (h : Bx w t g cs) (i : Nat) {v : Value} (hv : cs[i]? = some v) : w.cell? ⟨g, i, none⟩ = some v := by rw [cell_of_row _ _ _ _ _ _ h]; exact hv
theorem Bx.lt {w : World} {t : TypeId} {g : Nat} {cs : Array Value} (h : Bx w t g cs) : g < w.heap.size := (Array.getElem?_eq_some_iff.1 h).1
theorem Bx.keep {w w' : World} {t : TypeId} {g : Nat} {cs : Array Value} (h : Bx w t g cs) (hb : Below w.heap.size w w') : Bx w' t g cs := (hb.block g h.lt).trans h
theorem Bx.but {S : Nat → Prop} {w w' : World} {t : TypeId} {g : Nat} {cs : Array Value} (h : Bx w t g cs) (hb : But S w w') (hn : ¬ S g) : Bx w' t g cs := (hb.block g h.lt hn).trans h
theorem Bx.new (w : World) (t : TypeId) (cs : Array Value) : Bx (w.alloc (.cells cs t)) t w.heap.size cs := heap_alloc_new _ _
theorem dr2 (w : World) : Below w.heap.size w w.drew := (Below.refl _ _).drew
theorem Bx.setc {w : World} {t : TypeId} {g : Nat} {cs : Array Value} (h : Bx w t g cs) (i : Nat) (u : Value) : Bx (w.setCell ⟨g, i, none⟩ u) t g (cs.setIfInBounds i u) := heap_setCell_same w g i _ _ _ h
theorem Bx.oth {w : World} {t : TypeId} {g : Nat} {cs : Array Value} (h : Bx w t g cs) {p : Addr} (hn : g ≠ p.block) (u : Value) : Bx (w.setCell p u) t g cs := (Below.heap_setCell _ _ _ _ hn).trans h
theorem but_setRow (w : World) (g : Nat) (cs : Array Value) : But (fun k => k = g) w (w.setRow g cs) := by
  have h := below_setRow (Below.refl 0 w) (Nat.zero_le g) cs
  exact ⟨h.os, h.tape, h.output, h.size, fun k _ hn => setRow_other _ _ _ _ hn⟩
theorem beqn (a b : Nat) : (((a : Nat) : Int) == ((b : Nat) : Int)) = decide (a = b) := by rw [beqd, decide_eq_decide]; omega
theorem get_all {p : List Nat} (h : p.length = 4) : ((⟨p, 0⟩ : RS).get 4).1 = numV p := by
  rw [get_cut (by omega), List.take_of_length_le (by omega)]
end Go.Proofs.Ytifhkfghjifecaa
