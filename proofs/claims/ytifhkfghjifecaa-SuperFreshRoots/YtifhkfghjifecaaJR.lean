import Derived.Test.YtifhkfghjifecaaJQ
import Derived.Test.YtifhkfghjifecaaIX
import Derived.Test.YtifhkfghjifecaaVB
namespace Go.Proofs.Ytifhkfghjifecaa
open Go.RowKit

theorem deS_small {b : List Nat} : (deS b).rs.length ≤ 16 := by
  by_cases h : deE b = 0
  · rw [deS_eq h]
    show (rRs (b.take 508) (nv (b.take 508) 25 1)).length ≤ 16
    rw [rRs_length]
    exact (okD_iff.1 (deE_zero.1 h).2.2).1
  · rw [deS_no h]
    exact Nat.zero_le _
end Go.Proofs.Ytifhkfghjifecaa
