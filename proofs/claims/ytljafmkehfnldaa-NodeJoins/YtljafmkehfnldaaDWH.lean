import Derived.Test.YtljafmkehfnldaaDWF
import Derived.Test.YtljafmkehfnldaaDWG
namespace Go.Proofs.Ytljafmkehfnldaa
open Go.RowKit
theorem nodeJoins_any (w : World) (v : Tv) (hT : Tj w v) :
    Calls Try.prog 6 #[v.vl] w fun e w' => e = .returned (.bool true) ∧ Below w.heap.size w w' := nodeJoins_of rJoin_any w v hT
end Go.Proofs.Ytljafmkehfnldaa
