import Derived.Test.YtdngdcjjhabfiabGreatPMY
import Derived.Test.YtdngdcjjhabfiabGreatPQD
import Derived.Test.YtdngdcjjhabfiabGreatPQE
namespace Go.Proofs.YtdngdcjjhabfiabGreat
open Go.RowKit

theorem encB_b8 {no gen : Int} {p : Pg} (h : p.b8) : B8 (encB no gen p) := by
  unfold encB
  split
  · exact summed_b8 (body_b8 h no gen)
  · intro x hx; cases hx
end Go.Proofs.YtdngdcjjhabfiabGreat
