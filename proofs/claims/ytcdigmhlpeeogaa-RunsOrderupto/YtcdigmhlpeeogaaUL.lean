import Derived.Test.YtcdigmhlpeeogaaULA
import Derived.Test.YtcdigmhlpeeogaaULB
import Derived.Test.YtcdigmhlpeeogaaULC
import Derived.Test.YtcdigmhlpeeogaaULD
import Derived.Test.YtcdigmhlpeeogaaULE
import Derived.Test.YtcdigmhlpeeogaaULF
namespace Go.Proofs.Ytcdigmhlpeeogaa
open Go.RowKit

theorem Replace_any (w : World) (a : Option Addr) (cap : Nat) (A M B : List Rn) (hR : Vw w a cap (A ++ M ++ B)) (av : Option Addr) (cv : Nat) (V : List Rn) (hV : Vw w av cv V) (hne : ∀ x y, a = some x → av = some y → x.block ≠ y.block) (hl : A.length + M.length + B.length + V.length ≤ 8589934592) :
    Calls Try.prog 24 #[.slice a ((A.length + M.length + B.length : Nat)) cap, .int .i64 ((A.length : Nat) : Int), .int .i64 ((A.length + M.length : Nat) : Int), .slice av V.length cv] w fun e w' =>
      ∃ a' cap', e = .returned (.slice a' ((A.length + V.length + B.length : Nat)) cap') ∧ Vw w' a' cap' (A ++ V ++ B) ∧ New w a a' ∧ But (InA a) w w' := by
  by_cases hm0 : M = []
  · subst hm0
    rw [List.append_nil] at hR
    have := Replace_none w a cap A B hR av cv V hV hne (by simpa using hl)
    rw [List.length_nil, Nat.add_zero]
    exact this
  · by_cases hb0 : B.length = 0
    · by_cases hvm : V.length < M.length
      · exact Replace_end1 w a cap A M B hR av cv V hV hne hl hm0 hb0 hvm
      · exact Replace_end2 w a cap A M B hR av cv V hV hne hl hm0 hb0 (by omega)
    · by_cases hroom : cap < A.length + V.length + B.length
      · exact Replace_mid1 w a cap A M B hR av cv V hV hne hl hm0 (by omega) hroom
      · by_cases hvm : V.length ≤ M.length
        · exact Replace_mid2 w a cap A M B hR av cv V hV hne hl hm0 (by omega) (by omega) hvm
        · exact Replace_mid3 w a cap A M B hR av cv V hV hne hl hm0 (by omega) (by omega) (by omega)
end Go.Proofs.Ytcdigmhlpeeogaa
