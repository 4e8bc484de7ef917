import Derived.Test.YtmfelkncomfipaaDWC
namespace Go.Proofs.Ytmfelkncomfipaa
set_option linter.unusedVariables false
set_option linter.unusedSimpArgs false
open Go.RowKit
theorem spl_le {p : Pg} : (spl p).l.items.length ≤ 8 ∧ (spl p).r.items.length ≤ 8 := by
  unfold spl
  split
  · rename_i h
    have h8 := h.2
    unfold prt
    split
    · simp [Pg.wi, h8]
    · split
      · simp [Pg.wi, h8]
      · simp [Hv.none, Pg.zero]
  · simp [Hv.none, Pg.zero]
theorem pi_le {v w : World} {P : Pv} {L : Pg} (h : Pn v w P) (e : P.pg = L) (hl : L.items.length ≤ 8) : Pi w P := h.piL e hl
end Go.Proofs.Ytmfelkncomfipaa
