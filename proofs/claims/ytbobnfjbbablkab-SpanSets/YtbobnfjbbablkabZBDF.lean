import Derived.Test.YtbobnfjbbablkabZBDB
import Derived.Test.YtbobnfjbbablkabZBDC
import Derived.Test.YtbobnfjbbablkabZBDD
import Derived.Test.YtbobnfjbbablkabZBDE
namespace Go.Proofs.Ytbobnfjbbablkab
open Go.RowKit

theorem spanSets_any (w : World) (r : Rv) (hR : Ri w r) (hr : Rb' r) (s : Rv) (hS : Ri w s) (hs : Rb' s) (ax : Option Addr) (cx : Nat) (x : List Nat) (hX : Bs w ax x) (_ : x.length + 64 ≤ 140737488355328) (_ : x.length ≤ cx) :
    Calls Try.prog 5 #[.agg r.cs, .agg s.cs, .slice ax x.length cx] w fun e w' => e = .returned (.bool true) ∧ Below w.heap.size w w' := by
  by_cases hk : isK x = true
  · obtain ⟨aL, cL, lo, aH, cH, hi, op⟩ := r
    by_cases h1 : 0 ≤ cmpB x lo
    · cases op with
      | true => exact spanSets_B w aL cL lo aH cH hi hR hr s hS hs ax cx x hX hk h1
      | false =>
        by_cases h2 : cmpB x hi < 0
        · exact spanSets_C w aL cL lo aH cH hi hR hr s hS hs ax cx x hX hk h1 h2
        · exact spanSets_D w aL cL lo aH cH hi hR hr s hS hs ax cx x hX hk h1 h2
    · exact spanSets_A w aL cL lo aH cH hi op hR hr s hS hs ax cx x hX hk h1
  · exact spanSets_N w r hR s hS ax cx x hX (by simpa using hk)
end Go.Proofs.Ytbobnfjbbablkab
