import Derived.Test.YtmfelkncomfipaaDWO
import Derived.Test.YtmfelkncomfipaaDWM
namespace Go.Proofs.Ytmfelkncomfipaa
open Go.RowKit
theorem nodeLends_any (w : World) (v : Tv) (hT : Tj w v) :
    Calls Try.prog 3 #[v.vl] w fun e w' => e = .returned (.bool true) ∧ Below w.heap.size w w' := nodeLends_of rLend_any w v hT
end Go.Proofs.Ytmfelkncomfipaa
