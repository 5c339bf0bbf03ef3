/- Towards the statements of package bound (layer 5): the one number that a bound knows; which bounds are within others; what two have in common; the lowest bits; as the program has them. -/
import Derived.Test.YtcbcijibgpaipabGreatBK
import Derived.Test.YtcbcijibgpaipabGreatBI
namespace Go.Proofs.YtcbcijibgpaipabGreat
open Go.ChangeShapes Go.WideShapes Go.ChangeAt Go.RowKit
open Tn (iv)
set_option linter.unusedVariables false
set_option maxRecDepth 20000

end Go.Proofs.YtcbcijibgpaipabGreat
