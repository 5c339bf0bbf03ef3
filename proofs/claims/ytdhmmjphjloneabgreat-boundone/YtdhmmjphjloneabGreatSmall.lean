/- Towards the statements of package span (layer 4): which numbers rows, spans and reaches have; the small functions of the document. -/
import Derived.Test.YtdhmmjphjloneabGreatApi
namespace Go.Proofs.YtdhmmjphjloneabGreat
open Go.ChangeShapes Go.WideShapes Go.ChangeAt Go.RowKit
set_option linter.unusedVariables false
set_option maxRecDepth 20000

theorem has_u (l h x : Int) (w : World) : Calls Tryz.prog 68 #[.agg #[.int .u64 l, .int .u64 h], .int .u64 x] w fun e w' => e = .returned (.bool (decide (l ≤ x) && decide (x ≤ h))) ∧ w' = w.alloc (.cells #[.int .u64 l, .int .u64 h] 85) := by
  cases e1 : decide (l ≤ x)
  all_goals
    go_enter Tryz.func68, Tryz.ntmps68
    go_wp2
    go_ret
    exact ⟨by simp, rfl⟩
theorem none_u (l h : Int) (w : World) : Calls Tryz.prog 36 #[.agg #[.int .u64 l, .int .u64 h]] w fun e w' => e = .returned (.bool (decide (h < l))) ∧ w' = (w.alloc (.cells #[.int .u64 l, .int .u64 h] 29)).alloc (.cells #[.int .u64 l, .int .u64 h] 85) := by
  go_enter Tryz.func36, Tryz.ntmps36
  go_wp2_with (first
    | (go_at_call 72; refine (empty_u _ _ _).mono ?_; rintro e w' ⟨rfl, hw⟩; subst hw))
  go_ret
  exact ⟨rfl, rfl⟩
theorem Has_u (l h x : Int) (w : World) : Calls Tryz.prog 28 #[.agg #[.int .u64 l, .int .u64 h], .int .u64 x] w fun e w' => e = .returned (.bool (decide (l ≤ x) && decide (x ≤ h))) ∧ w' = (w.alloc (.cells #[.int .u64 l, .int .u64 h] 29)).alloc (.cells #[.int .u64 l, .int .u64 h] 85) := by
  go_enter Tryz.func28, Tryz.ntmps28
  go_wp2_with (first
    | (go_at_call 68; refine (has_u _ _ _ _).mono ?_; rintro e w' ⟨rfl, hw⟩; subst hw))
  go_ret
  exact ⟨rfl, rfl⟩
theorem has_s (l h x : Int) (w : World) : Calls Tryz.prog 69 #[.agg #[.int .i64 l, .int .i64 h], .int .i64 x] w fun e w' => e = .returned (.bool (decide (l ≤ x) && decide (x ≤ h))) ∧ w' = w.alloc (.cells #[.int .i64 l, .int .i64 h] 87) := by
  cases e1 : decide (l ≤ x)
  all_goals
    go_enter Tryz.func69, Tryz.ntmps69
    go_wp2
    go_ret
    exact ⟨by simp, rfl⟩
theorem none_s (l h : Int) (w : World) : Calls Tryz.prog 37 #[.agg #[.int .i64 l, .int .i64 h]] w fun e w' => e = .returned (.bool (decide (h < l))) ∧ w' = (w.alloc (.cells #[.int .i64 l, .int .i64 h] 31)).alloc (.cells #[.int .i64 l, .int .i64 h] 87) := by
  go_enter Tryz.func37, Tryz.ntmps37
  go_wp2_with (first
    | (go_at_call 73; refine (empty_s _ _ _).mono ?_; rintro e w' ⟨rfl, hw⟩; subst hw))
  go_ret
  exact ⟨rfl, rfl⟩
theorem Has_s (l h x : Int) (w : World) : Calls Tryz.prog 29 #[.agg #[.int .i64 l, .int .i64 h], .int .i64 x] w fun e w' => e = .returned (.bool (decide (l ≤ x) && decide (x ≤ h))) ∧ w' = (w.alloc (.cells #[.int .i64 l, .int .i64 h] 31)).alloc (.cells #[.int .i64 l, .int .i64 h] 87) := by
  go_enter Tryz.func29, Tryz.ntmps29
  go_wp2_with (first
    | (go_at_call 69; refine (has_s _ _ _ _).mono ?_; rintro e w' ⟨rfl, hw⟩; subst hw))
  go_ret
  exact ⟨rfl, rfl⟩
theorem rspan (l h : Int) (w : World) : Calls Tryz.prog 81 #[.int .u64 l, .int .u64 h] w fun e w' => e = .returned (.agg #[.int .u64 l, .int .u64 h]) ∧ w' = w.alloc (.cells #[.int .u64 l, .int .u64 h] 29) := by
  go_enter Tryz.func81, Tryz.ntmps81
  go_wp2
  go_returns
  exact ⟨rfl, rfl⟩
theorem rfull (w : World) : Calls Tryz.prog 61 #[] w fun e w' => e = .returned (.agg #[.int .u64 0, .int .u64 18446744073709551615]) ∧ w' = (w.alloc (.cells #[.int .u64 0, .int .u64 18446744073709551615] 29)).alloc (.cells #[.int .u64 0, .int .u64 18446744073709551615] 29) := by
  go_enter Tryz.func61, Tryz.ntmps61
  go_wp2_with (first
    | (go_at_call 81; refine (rspan _ _ _).mono ?_; rintro e w' ⟨rfl, hw⟩; subst hw))
  go_returns
  exact ⟨rfl, rfl⟩
theorem rall (w : World) : Calls Tryz.prog 62 #[] w fun e w' => e = .returned (.agg #[.int .i64 (-9223372036854775808), .int .i64 9223372036854775807]) ∧ w' = w.alloc (.cells #[.int .i64 (-9223372036854775808), .int .i64 9223372036854775807] 31) := by
  go_enter Tryz.func62, Tryz.ntmps62
  go_wp2
  go_returns
  exact ⟨rfl, rfl⟩
end Go.Proofs.YtdhmmjphjloneabGreat
