import Derived.Test.YtoachodngjlpaaaDH
namespace Go.Proofs.Ytoachodngjlpaaa
set_option linter.unusedVariables false
set_option linter.unusedSimpArgs false
open Go.RowKit

/-! ### the document's Search and Route -/
end Go.Proofs.Ytoachodngjlpaaa
