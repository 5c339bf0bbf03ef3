/- Towards the statements of package span (layer 4): the answers of the document, in the words of the program: shifts, and numbers with a sign. -/
import Derived.Test.YtekenpgagfmgkabGreatRefA
namespace Go.Proofs.YtekenpgagfmgkabGreat
open Go.ChangeShapes Go.WideShapes Go.ChangeAt Go.RowKit
set_option linter.unusedVariables false
set_option maxRecDepth 20000

theorem up_le (x : Int) (n : Nat) : decide (18446744073709551615 / 2 ^ n < x) = !decide (x * 2 ^ n ≤ 18446744073709551615) := by
  have hp : (0 : Int) < 2 ^ n := Int.pow_pos (by omega)
  rcases Int.lt_or_le 18446744073709551615 (x * 2 ^ n) with k | k
  · rw [decide_eq_false (show ¬ x * 2 ^ n ≤ 18446744073709551615 by omega), decide_eq_true]
    · rfl
    · rcases Int.lt_or_le (18446744073709551615 / 2 ^ n) x with h | h
      · exact h
      · have := (Int.le_ediv_iff_mul_le hp).1 h
        omega
  · rw [decide_eq_true k, decide_eq_false]
    · rfl
    · have := (Int.le_ediv_iff_mul_le hp).2 k
      omega
theorem down_zero (x : Int) (hx : InU x) : x / 2 ^ 64 = 0 := by
  unfold InU at hx
  have : (2 : Int) ^ 64 = 18446744073709551616 := by decide
  rw [this]; omega
end Go.Proofs.YtekenpgagfmgkabGreat
