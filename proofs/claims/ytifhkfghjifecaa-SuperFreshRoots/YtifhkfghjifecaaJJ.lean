import Derived.Test.YtifhkfghjifecaaIY
namespace Go.Proofs.Ytifhkfghjifecaa
open Go.RowKit

/-! ### is one that spare made as it was? -/
end Go.Proofs.Ytifhkfghjifecaa
