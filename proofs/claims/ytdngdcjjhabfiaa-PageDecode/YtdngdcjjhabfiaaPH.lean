import Derived.Test.YtdngdcjjhabfiaaPHi0
import Derived.Test.YtdngdcjjhabfiaaPHiN
import Derived.Test.YtdngdcjjhabfiaaPHl0
import Derived.Test.YtdngdcjjhabfiaaPHlN
namespace Go.Proofs.Ytdngdcjjhabfiaa
theorem checkItem_any (w0 w : World) (kb e i : Nat) (p : Pv) (h : Kt w0 kb w e) (hP : Pi w0 p) (hi : i < p.items.length) (hk : p.kind = 1 ∨ p.kind = 2) : Calls Try.prog 24 #[p.vl, .int .i64 (i : Int), tv kb] w fun x w' => x = .returned (.tuple #[]) ∧ Kt w0 kb w' (els e (p.pg.itemE i)) := by
  by_cases h0 : i = 0
  · rcases hk with hk | hk
    · exact checkItem_l0 w0 w kb e i p h hP hi hk h0
    · exact checkItem_i0 w0 w kb e i p h hP hi hk h0
  · rcases hk with hk | hk
    · exact checkItem_lN w0 w kb e i p h hP hi hk h0
    · exact checkItem_iN w0 w kb e i p h hP hi hk h0
end Go.Proofs.Ytdngdcjjhabfiaa
