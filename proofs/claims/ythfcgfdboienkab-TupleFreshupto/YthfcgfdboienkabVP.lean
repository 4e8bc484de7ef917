import Derived.Test.YthfcgfdboienkabVK
namespace Go.Proofs.Ythfcgfdboienkab
open Go.RowKit
theorem h3_0 (w : World) (o1 o2 o3 : Obj) : (((w.alloc o1).alloc o2).alloc o3).drew.heap[w.heap.size]? = some o1 := by
  show ((w.heap.push o1).push o2 |>.push o3)[w.heap.size]? = _
  rw [Array.getElem?_push_lt (by simp; omega), Array.getElem_push_lt (by simp), Array.getElem_push_eq]
theorem h3_1 (w : World) (o1 o2 o3 : Obj) : (((w.alloc o1).alloc o2).alloc o3).drew.heap[w.heap.size + 1]? = some o2 := by
  show ((w.heap.push o1).push o2 |>.push o3)[w.heap.size + 1]? = _
  rw [Array.getElem?_push_lt (by simp)]
  simp [Array.getElem_push]
theorem h3_s (w : World) (o1 o2 o3 : Obj) : (((w.alloc o1).alloc o2).alloc o3).drew.heap.size = w.heap.size + 3 := by
  show ((w.heap.push o1).push o2 |>.push o3).size = _
  simp
theorem set_same {w : World} {g k : Nat} {C : Array Value} {t : TypeId} {v : Value} (h : w.heap[g]? = some (.cells C t (0, 0))) (hk : C[k]? = some v) : w.setCell ⟨g, k, none⟩ v = w := by
  have e : (w.setCell ⟨g, k, none⟩ v).heap = w.heap := by
    apply Array.ext_getElem?
    intro i
    show (w.heap.modify g _)[i]? = _
    rw [Array.getElem?_modify]
    by_cases hi : g = i
    · subst hi
      rw [if_pos rfl, h]
      simp only [Option.map_some, Option.isSome_none, Bool.false_eq_true, if_false, Option.some.injEq, Obj.cells.injEq, and_true]
      apply Array.ext_getElem?
      intro n
      rw [Array.getElem?_setIfInBounds]
      by_cases hn : k = n
      · subst hn
        have := (Array.getElem?_eq_some_iff.1 hk).1
        rw [if_pos rfl, if_pos this, hk]
      · rw [if_neg hn]
    · rw [if_neg hi]
  cases w
  simpa [World.setCell] using e
theorem same_tail (w w1 : World) (o2 o3 : Obj) (C : Array Value) (hb : Below (((w.alloc (.cells C 48)).alloc o2).alloc o3).drew.heap.size (((w.alloc (.cells C 48)).alloc o2).alloc o3).drew w1) :
    w1.heap[w.heap.size]? = some (.cells C 48 (0, 0)) ∧ w1.heap[w.heap.size + 1]? = some o2 ∧ Below w.heap.size w w1 := by
  refine ⟨(hb.block w.heap.size (by rw [h3_s]; omega)).trans (h3_0 _ _ _ _), (hb.block (w.heap.size + 1) (by rw [h3_s]; omega)).trans (h3_1 _ _ _ _), ?_⟩
  exact bt ((((Below.refl w.heap.size w).alloc (Nat.le_refl _) _).alloc (by rw [size_alloc]; omega) _).alloc (by rw [size_alloc, size_alloc]; omega) _).drew hb
end Go.Proofs.Ythfcgfdboienkab
