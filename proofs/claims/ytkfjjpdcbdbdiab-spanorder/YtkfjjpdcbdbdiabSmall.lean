/- Towards the statements of package span (layer 4): which numbers rows, spans and reaches have; the small functions of the document. -/
import Derived.Test.YtkfjjpdcbdbdiabApi
namespace Go.Proofs.Ytkfjjpdcbdbdiab
open Go.ChangeShapes Go.WideShapes Go.ChangeAt Go.RowKit
set_option linter.unusedVariables false
set_option maxRecDepth 20000

theorem has_u (l h x : Int) (w : World) : Calls Try.prog 60 #[.agg #[.int .u64 l, .int .u64 h], .int .u64 x] w fun e w' => e = .returned (.bool (decide (l ≤ x) && decide (x ≤ h))) ∧ w' = w.alloc (.cells #[.int .u64 l, .int .u64 h] 47) := by
  cases e1 : decide (l ≤ x)
  all_goals
    go_enter Try.func60, Try.ntmps60
    go_wp2
    go_ret
    exact ⟨by simp, rfl⟩
theorem none_u (l h : Int) (w : World) : Calls Try.prog 15 #[.agg #[.int .u64 l, .int .u64 h]] w fun e w' => e = .returned (.bool (decide (h < l))) ∧ w' = (w.alloc (.cells #[.int .u64 l, .int .u64 h] 24)).alloc (.cells #[.int .u64 l, .int .u64 h] 47) := by
  go_enter Try.func15, Try.ntmps15
  go_wp2_with (first
    | (go_at_call 48; refine (empty_u _ _ _).mono ?_; rintro e w' ⟨rfl, hw⟩; subst hw))
  go_ret
  exact ⟨rfl, rfl⟩
theorem Has_u (l h x : Int) (w : World) : Calls Try.prog 27 #[.agg #[.int .u64 l, .int .u64 h], .int .u64 x] w fun e w' => e = .returned (.bool (decide (l ≤ x) && decide (x ≤ h))) ∧ w' = (w.alloc (.cells #[.int .u64 l, .int .u64 h] 24)).alloc (.cells #[.int .u64 l, .int .u64 h] 47) := by
  go_enter Try.func27, Try.ntmps27
  go_wp2_with (first
    | (go_at_call 60; refine (has_u _ _ _ _).mono ?_; rintro e w' ⟨rfl, hw⟩; subst hw))
  go_ret
  exact ⟨rfl, rfl⟩
theorem has_s (l h x : Int) (w : World) : Calls Try.prog 61 #[.agg #[.int .i64 l, .int .i64 h], .int .i64 x] w fun e w' => e = .returned (.bool (decide (l ≤ x) && decide (x ≤ h))) ∧ w' = w.alloc (.cells #[.int .i64 l, .int .i64 h] 56) := by
  cases e1 : decide (l ≤ x)
  all_goals
    go_enter Try.func61, Try.ntmps61
    go_wp2
    go_ret
    exact ⟨by simp, rfl⟩
theorem none_s (l h : Int) (w : World) : Calls Try.prog 21 #[.agg #[.int .i64 l, .int .i64 h]] w fun e w' => e = .returned (.bool (decide (h < l))) ∧ w' = (w.alloc (.cells #[.int .i64 l, .int .i64 h] 26)).alloc (.cells #[.int .i64 l, .int .i64 h] 56) := by
  go_enter Try.func21, Try.ntmps21
  go_wp2_with (first
    | (go_at_call 57; refine (empty_s _ _ _).mono ?_; rintro e w' ⟨rfl, hw⟩; subst hw))
  go_ret
  exact ⟨rfl, rfl⟩
theorem Has_s (l h x : Int) (w : World) : Calls Try.prog 28 #[.agg #[.int .i64 l, .int .i64 h], .int .i64 x] w fun e w' => e = .returned (.bool (decide (l ≤ x) && decide (x ≤ h))) ∧ w' = (w.alloc (.cells #[.int .i64 l, .int .i64 h] 26)).alloc (.cells #[.int .i64 l, .int .i64 h] 56) := by
  go_enter Try.func28, Try.ntmps28
  go_wp2_with (first
    | (go_at_call 61; refine (has_s _ _ _ _).mono ?_; rintro e w' ⟨rfl, hw⟩; subst hw))
  go_ret
  exact ⟨rfl, rfl⟩
theorem rspan (l h : Int) (w : World) : Calls Try.prog 62 #[.int .u64 l, .int .u64 h] w fun e w' => e = .returned (.agg #[.int .u64 l, .int .u64 h]) ∧ w' = w.alloc (.cells #[.int .u64 l, .int .u64 h] 24) := by
  go_enter Try.func62, Try.ntmps62
  go_wp2
  go_returns
  exact ⟨rfl, rfl⟩
theorem rfull (w : World) : Calls Try.prog 30 #[] w fun e w' => e = .returned (.agg #[.int .u64 0, .int .u64 18446744073709551615]) ∧ w' = (w.alloc (.cells #[.int .u64 0, .int .u64 18446744073709551615] 24)).alloc (.cells #[.int .u64 0, .int .u64 18446744073709551615] 24) := by
  go_enter Try.func30, Try.ntmps30
  go_wp2_with (first
    | (go_at_call 62; refine (rspan _ _ _).mono ?_; rintro e w' ⟨rfl, hw⟩; subst hw))
  go_returns
  exact ⟨rfl, rfl⟩
theorem rall (w : World) : Calls Try.prog 31 #[] w fun e w' => e = .returned (.agg #[.int .i64 (-9223372036854775808), .int .i64 9223372036854775807]) ∧ w' = w.alloc (.cells #[.int .i64 (-9223372036854775808), .int .i64 9223372036854775807] 26) := by
  go_enter Try.func31, Try.ntmps31
  go_wp2
  go_returns
  exact ⟨rfl, rfl⟩
end Go.Proofs.Ytkfjjpdcbdbdiab
