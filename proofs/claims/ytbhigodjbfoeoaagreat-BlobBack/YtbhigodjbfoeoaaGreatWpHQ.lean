import Derived.Test.YtbhigodjbfoeoaaGreatWpHP
namespace Go.Proofs.YtbhigodjbfoeoaaGreat
set_option linter.unusedVariables false
set_option linter.unusedSimpArgs false
open Go.RowKit
theorem Bl.keep {w w' : World} {a : Option Addr} {T : List Br} (h : Bl w a T) (hb : Below w.heap.size w w') : Bl w' a T := ⟨fun j hj => by
    obtain ⟨b, off, e, hc⟩ := h.c j hj
    exact ⟨b, off, e, (hb.cell (p := ⟨b, off + j, none⟩) (block_lt_of_cell hc)).trans hc⟩, fun t ht => ⟨(h.r t ht).1.keep hb, (h.r t ht).2⟩⟩
end Go.Proofs.YtbhigodjbfoeoaaGreat
