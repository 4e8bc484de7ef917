import Derived.Test.YtlneomgjjkfnoabGreatPMY
import Derived.Test.YtlneomgjjkfnoabGreatPQD
import Derived.Test.YtlneomgjjkfnoabGreatPQE
namespace Go.Proofs.YtlneomgjjkfnoabGreat
open Go.RowKit

theorem encB_b8 {no gen : Int} {p : Pg} (h : p.b8) : B8 (encB no gen p) := by
  unfold encB
  split
  · exact summed_b8 (body_b8 h no gen)
  · intro x hx; cases hx
end Go.Proofs.YtlneomgjjkfnoabGreat
