/- Towards the statements of package span (layer 4): which numbers rows, spans and reaches have; the small functions of the document. -/
import Derived.Test.YtagagifmmepjeabApi
namespace Go.Proofs.Ytagagifmmepjeab
open Go.ChangeShapes Go.WideShapes Go.ChangeAt Go.RowKit
set_option linter.unusedVariables false
set_option maxRecDepth 20000

theorem has_u (l h x : Int) (w : World) : Calls Try.prog 34 #[.agg #[.int .u64 l, .int .u64 h], .int .u64 x] w fun e w' => e = .returned (.bool (decide (l ≤ x) && decide (x ≤ h))) ∧ w' = w.alloc (.cells #[.int .u64 l, .int .u64 h] 34) := by
  cases e1 : decide (l ≤ x)
  all_goals
    go_enter Try.func34, Try.ntmps34
    go_wp2
    go_ret
    exact ⟨by simp, rfl⟩
theorem none_u (l h : Int) (w : World) : Calls Try.prog 14 #[.agg #[.int .u64 l, .int .u64 h]] w fun e w' => e = .returned (.bool (decide (h < l))) ∧ w' = (w.alloc (.cells #[.int .u64 l, .int .u64 h] 24)).alloc (.cells #[.int .u64 l, .int .u64 h] 34) := by
  go_enter Try.func14, Try.ntmps14
  go_wp2_with (first
    | (go_at_call 33; refine (empty_u _ _ _).mono ?_; rintro e w' ⟨rfl, hw⟩; subst hw))
  go_ret
  exact ⟨rfl, rfl⟩
theorem Has_u (l h x : Int) (w : World) : Calls Try.prog 15 #[.agg #[.int .u64 l, .int .u64 h], .int .u64 x] w fun e w' => e = .returned (.bool (decide (l ≤ x) && decide (x ≤ h))) ∧ w' = (w.alloc (.cells #[.int .u64 l, .int .u64 h] 24)).alloc (.cells #[.int .u64 l, .int .u64 h] 34) := by
  go_enter Try.func15, Try.ntmps15
  go_wp2_with (first
    | (go_at_call 34; refine (has_u _ _ _ _).mono ?_; rintro e w' ⟨rfl, hw⟩; subst hw))
  go_ret
  exact ⟨rfl, rfl⟩
theorem has_s (l h x : Int) (w : World) : Calls Try.prog 39 #[.agg #[.int .i64 l, .int .i64 h], .int .i64 x] w fun e w' => e = .returned (.bool (decide (l ≤ x) && decide (x ≤ h))) ∧ w' = w.alloc (.cells #[.int .i64 l, .int .i64 h] 50) := by
  cases e1 : decide (l ≤ x)
  all_goals
    go_enter Try.func39, Try.ntmps39
    go_wp2
    go_ret
    exact ⟨by simp, rfl⟩
theorem Has_s (l h x : Int) (w : World) : Calls Try.prog 29 #[.agg #[.int .i64 l, .int .i64 h], .int .i64 x] w fun e w' => e = .returned (.bool (decide (l ≤ x) && decide (x ≤ h))) ∧ w' = (w.alloc (.cells #[.int .i64 l, .int .i64 h] 43)).alloc (.cells #[.int .i64 l, .int .i64 h] 50) := by
  go_enter Try.func29, Try.ntmps29
  go_wp2_with (first
    | (go_at_call 39; refine (has_s _ _ _ _).mono ?_; rintro e w' ⟨rfl, hw⟩; subst hw))
  go_ret
  exact ⟨rfl, rfl⟩
theorem rspan (l h : Int) (w : World) : Calls Try.prog 40 #[.int .u64 l, .int .u64 h] w fun e w' => e = .returned (.agg #[.int .u64 l, .int .u64 h]) ∧ w' = w.alloc (.cells #[.int .u64 l, .int .u64 h] 24) := by
  go_enter Try.func40, Try.ntmps40
  go_wp2
  go_returns
  exact ⟨rfl, rfl⟩
theorem rfull (w : World) : Calls Try.prog 31 #[] w fun e w' => e = .returned (.agg #[.int .u64 0, .int .u64 18446744073709551615]) ∧ w' = (w.alloc (.cells #[.int .u64 0, .int .u64 18446744073709551615] 24)).alloc (.cells #[.int .u64 0, .int .u64 18446744073709551615] 24) := by
  go_enter Try.func31, Try.ntmps31
  go_wp2_with (first
    | (go_at_call 40; refine (rspan _ _ _).mono ?_; rintro e w' ⟨rfl, hw⟩; subst hw))
  go_returns
  exact ⟨rfl, rfl⟩
theorem rall (w : World) : Calls Try.prog 32 #[] w fun e w' => e = .returned (.agg #[.int .i64 (-9223372036854775808), .int .i64 9223372036854775807]) ∧ w' = w.alloc (.cells #[.int .i64 (-9223372036854775808), .int .i64 9223372036854775807] 43) := by
  go_enter Try.func32, Try.ntmps32
  go_wp2
  go_returns
  exact ⟨rfl, rfl⟩
end Go.Proofs.Ytagagifmmepjeab
