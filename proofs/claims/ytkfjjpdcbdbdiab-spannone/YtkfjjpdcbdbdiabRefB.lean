/- Towards the statements of package span (layer 4): the answers of the document, in the words of the program: products and shifts. -/
import Derived.Test.YtkfjjpdcbdbdiabRefA
namespace Go.Proofs.Ytkfjjpdcbdbdiab
open Go.ChangeShapes Go.WideShapes Go.ChangeAt Go.RowKit
set_option linter.unusedVariables false
set_option maxRecDepth 20000

theorem quo_le (x y : Int) (hx : InU x) (hy : InU y) (h : 0 < y) : decide (x ≤ 18446744073709551615 / y) = decide (x * y ≤ 18446744073709551615) := by
  rcases Int.lt_or_le 18446744073709551615 (x * y) with k | k
  · rw [decide_eq_false (show ¬ x * y ≤ 18446744073709551615 by omega), decide_eq_false]
    intro hle
    have := (Int.le_ediv_iff_mul_le h).1 hle
    omega
  · rw [decide_eq_true k, decide_eq_true ((Int.le_ediv_iff_mul_le h).2 k)]
end Go.Proofs.Ytkfjjpdcbdbdiab
