/- Towards the statements of package span (layer 4): the answers of the document, in the words of the program: sums, differences, products, shifts. -/
import Derived.Test.YtekenpgagfmgkabGreatSmall
namespace Go.Proofs.YtekenpgagfmgkabGreat
open Go.ChangeShapes Go.WideShapes Go.ChangeAt Go.RowKit
set_option linter.unusedVariables false
set_option maxRecDepth 20000

end Go.Proofs.YtekenpgagfmgkabGreat
