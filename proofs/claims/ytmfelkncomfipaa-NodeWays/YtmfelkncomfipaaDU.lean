import Derived.Test.YtmfelkncomfipaaDH
namespace Go.Proofs.Ytmfelkncomfipaa
set_option linter.unusedVariables false
set_option linter.unusedSimpArgs false
open Go.RowKit

/-! ### the document's Search and Route -/
end Go.Proofs.Ytmfelkncomfipaa
