import Derived.Test.YtbhigodjbfoeoaaGreatWpPZC
namespace Go.Proofs.YtbhigodjbfoeoaaGreat
open Go.RowKit
theorem Rw.set {w : World} {g cap : Nat} {l : List Nat} (h : Rw w (some ⟨g, 0, none⟩) cap l) (i x : Nat) : Rw (w.setCell ⟨g, i, none⟩ (.int .u8 (x : Int))) (some ⟨g, 0, none⟩) cap (l.set i x) := by
  rcases h.cases with ⟨h0, _⟩ | ⟨g', cur, h0, hg, h1, h2, h3, h4⟩
  · cases h0
  · simp only [Option.some.injEq, Addr.mk.injEq] at h0
    obtain ⟨rfl, _⟩ := h0
    refine Rw.mk (cur := cur.setIfInBounds i (.int .u8 (x : Int))) ?_ (by simpa using h1) h2 (by simpa using h3) ?_
    · show (w.heap.modify g _)[g]? = _
      rw [Array.getElem?_modify, if_pos rfl, hg]
      simp
    · rw [List.length_set, Array.toList_setIfInBounds, List.take_set, h4]
      simp [vb, List.map_set]
end Go.Proofs.YtbhigodjbfoeoaaGreat
