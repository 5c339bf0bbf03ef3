/- Towards the statements of package types (layer 10): the document's small functions. -/
import Derived.Test.YtmcjmdoeafhjpabTY
namespace Go.Proofs.Ytmcjmdoeafhjpab
open Go.ChangeShapes Go.WideShapes Go.ChangeAt Go.RowKit
set_option linter.unusedVariables false
set_option linter.unusedSimpArgs false
set_option maxRecDepth 20000

end Go.Proofs.Ytmcjmdoeafhjpab
