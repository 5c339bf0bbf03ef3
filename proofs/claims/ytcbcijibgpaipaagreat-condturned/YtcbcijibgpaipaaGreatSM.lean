/- Towards the statements of package span (layer 4): whatever is done with numbers of rows is a number of what is done with these. -/
import Derived.Test.YtcbcijibgpaipaaGreatMC
namespace Go.Proofs.YtcbcijibgpaipaaGreat
open Go.ChangeShapes Go.WideShapes Go.ChangeAt Go.RowKit
set_option linter.unusedVariables false
set_option maxRecDepth 20000

theorem has_yes {l h x : Int} (h1 : l ≤ x) (h2 : x ≤ h) : (decide (l ≤ x) && decide (x ≤ h)) = true := by
  rw [decide_eq_true h1, decide_eq_true h2]; rfl
theorem some_row {al ah x : Int} (n1 : al ≤ x) (n2 : x ≤ ah) : decide (ah < al) = false := decide_eq_false (by omega)
theorem eN_no (d r : Int) : eN false d r = r := rfl
theorem sign_in {al ah x : Int} (i0 : InU al) (i1 : InU ah) (n1 : al ≤ x) (n2 : x ≤ ah) : (decide (eN (decide (ah < al)) 1 (eN (decide (wrap64 ah < wrap64 al)) (-9223372036854775808) (wrap64 al)) ≤ wrap64 x) && decide (wrap64 x ≤ eN (decide (ah < al)) 0 (eN (decide (wrap64 ah < wrap64 al)) (9223372036854775807) (wrap64 ah)))) = true := by
  rw [some_row n1 n2, eN_no, eN_no]
  unfold InU at *
  simp only [wrap64]
  cases z : decide ((ah + 9223372036854775808) % 18446744073709551616 - 9223372036854775808 < (al + 9223372036854775808) % 18446744073709551616 - 9223372036854775808)
  · have z := of_decide_eq_false z
    rw [eN_no, eN_no]
    exact has_yes (by omega) (by omega)
  · show (decide (-9223372036854775808 ≤ _) && decide (_ ≤ 9223372036854775807)) = true
    exact has_yes (by omega) (by omega)
theorem bare_in {al ah x : Int} (i0 : InS al) (i1 : InS ah) (n1 : al ≤ x) (n2 : x ≤ ah) : (decide (eN (decide (ah < al)) 1 (eN (decide (IntKind.u64.wrap ah < IntKind.u64.wrap al)) (0) (IntKind.u64.wrap al)) ≤ IntKind.u64.wrap x) && decide (IntKind.u64.wrap x ≤ eN (decide (ah < al)) 0 (eN (decide (IntKind.u64.wrap ah < IntKind.u64.wrap al)) (18446744073709551615) (IntKind.u64.wrap ah)))) = true := by
  rw [some_row n1 n2, eN_no, eN_no]
  unfold InS at *
  simp only [IntKind.wrap_u64]
  cases z : decide (ah % 18446744073709551616 < al % 18446744073709551616)
  · have z := of_decide_eq_false z
    rw [eN_no, eN_no]
    exact has_yes (by omega) (by omega)
  · show (decide (0 ≤ _) && decide (_ ≤ 18446744073709551615)) = true
    exact has_yes (by omega) (by omega)
end Go.Proofs.YtcbcijibgpaipaaGreat
