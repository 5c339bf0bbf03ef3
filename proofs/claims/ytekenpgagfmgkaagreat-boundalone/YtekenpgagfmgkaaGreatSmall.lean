/- Towards the statements of package span (layer 4): which numbers rows, spans and reaches have; the small functions of the document. -/
import Derived.Test.YtekenpgagfmgkaaGreatApi
namespace Go.Proofs.YtekenpgagfmgkaaGreat
open Go.ChangeShapes Go.WideShapes Go.ChangeAt Go.RowKit
set_option linter.unusedVariables false
set_option maxRecDepth 20000

theorem has_u (l h x : Int) (w : World) : Calls Tryz.prog 114 #[.agg #[.int .u64 l, .int .u64 h], .int .u64 x] w fun e w' => e = .returned (.bool (decide (l ≤ x) && decide (x ≤ h))) ∧ w' = w.alloc (.cells #[.int .u64 l, .int .u64 h] 114) := by
  cases e1 : decide (l ≤ x)
  all_goals
    go_enter Tryz.func114, Tryz.ntmps114
    go_wp2
    go_ret
    exact ⟨by simp, rfl⟩
theorem none_u (l h : Int) (w : World) : Calls Tryz.prog 47 #[.agg #[.int .u64 l, .int .u64 h]] w fun e w' => e = .returned (.bool (decide (h < l))) ∧ w' = (w.alloc (.cells #[.int .u64 l, .int .u64 h] 26)).alloc (.cells #[.int .u64 l, .int .u64 h] 114) := by
  go_enter Tryz.func47, Tryz.ntmps47
  go_wp2_with (first
    | (go_at_call 106; refine (empty_u _ _ _).mono ?_; rintro e w' ⟨rfl, hw⟩; subst hw))
  go_ret
  exact ⟨rfl, rfl⟩
theorem Has_u (l h x : Int) (w : World) : Calls Tryz.prog 54 #[.agg #[.int .u64 l, .int .u64 h], .int .u64 x] w fun e w' => e = .returned (.bool (decide (l ≤ x) && decide (x ≤ h))) ∧ w' = (w.alloc (.cells #[.int .u64 l, .int .u64 h] 26)).alloc (.cells #[.int .u64 l, .int .u64 h] 114) := by
  go_enter Tryz.func54, Tryz.ntmps54
  go_wp2_with (first
    | (go_at_call 114; refine (has_u _ _ _ _).mono ?_; rintro e w' ⟨rfl, hw⟩; subst hw))
  go_ret
  exact ⟨rfl, rfl⟩
theorem rnone_u (l h : Int) (w : World) : Calls Tryz.prog 49 #[.agg #[.int .u64 l, .int .u64 h]] w fun e w' => e = .returned (.bool (decide (h < l))) ∧ w' = w.alloc (.cells #[.int .u64 l, .int .u64 h] 26) := by
  go_enter Tryz.func49, Tryz.ntmps49
  go_wp2
  go_ret
  exact ⟨rfl, rfl⟩
theorem rnothing_u (w : World) : Calls Tryz.prog 76 #[] w fun e w' => e = .returned (.agg #[.int .u64 1, .int .u64 0]) ∧ w' = w.alloc (.cells #[.int .u64 1, .int .u64 0] 26) := by
  go_enter Tryz.func76, Tryz.ntmps76
  go_wp2
  go_returns
  exact ⟨rfl, rfl⟩
theorem has_s (l h x : Int) (w : World) : Calls Tryz.prog 115 #[.agg #[.int .i64 l, .int .i64 h], .int .i64 x] w fun e w' => e = .returned (.bool (decide (l ≤ x) && decide (x ≤ h))) ∧ w' = w.alloc (.cells #[.int .i64 l, .int .i64 h] 116) := by
  cases e1 : decide (l ≤ x)
  all_goals
    go_enter Tryz.func115, Tryz.ntmps115
    go_wp2
    go_ret
    exact ⟨by simp, rfl⟩
theorem none_s (l h : Int) (w : World) : Calls Tryz.prog 48 #[.agg #[.int .i64 l, .int .i64 h]] w fun e w' => e = .returned (.bool (decide (h < l))) ∧ w' = (w.alloc (.cells #[.int .i64 l, .int .i64 h] 28)).alloc (.cells #[.int .i64 l, .int .i64 h] 116) := by
  go_enter Tryz.func48, Tryz.ntmps48
  go_wp2_with (first
    | (go_at_call 107; refine (empty_s _ _ _).mono ?_; rintro e w' ⟨rfl, hw⟩; subst hw))
  go_ret
  exact ⟨rfl, rfl⟩
theorem Has_s (l h x : Int) (w : World) : Calls Tryz.prog 55 #[.agg #[.int .i64 l, .int .i64 h], .int .i64 x] w fun e w' => e = .returned (.bool (decide (l ≤ x) && decide (x ≤ h))) ∧ w' = (w.alloc (.cells #[.int .i64 l, .int .i64 h] 28)).alloc (.cells #[.int .i64 l, .int .i64 h] 116) := by
  go_enter Tryz.func55, Tryz.ntmps55
  go_wp2_with (first
    | (go_at_call 115; refine (has_s _ _ _ _).mono ?_; rintro e w' ⟨rfl, hw⟩; subst hw))
  go_ret
  exact ⟨rfl, rfl⟩
theorem rnone_s (l h : Int) (w : World) : Calls Tryz.prog 50 #[.agg #[.int .i64 l, .int .i64 h]] w fun e w' => e = .returned (.bool (decide (h < l))) ∧ w' = w.alloc (.cells #[.int .i64 l, .int .i64 h] 28) := by
  go_enter Tryz.func50, Tryz.ntmps50
  go_wp2
  go_ret
  exact ⟨rfl, rfl⟩
theorem rnothing_s (w : World) : Calls Tryz.prog 77 #[] w fun e w' => e = .returned (.agg #[.int .i64 1, .int .i64 0]) ∧ w' = w.alloc (.cells #[.int .i64 1, .int .i64 0] 28) := by
  go_enter Tryz.func77, Tryz.ntmps77
  go_wp2
  go_returns
  exact ⟨rfl, rfl⟩
theorem rspan (l h : Int) (w : World) : Calls Tryz.prog 120 #[.int .u64 l, .int .u64 h] w fun e w' => e = .returned (.agg #[.int .u64 l, .int .u64 h]) ∧ w' = w.alloc (.cells #[.int .u64 l, .int .u64 h] 26) := by
  go_enter Tryz.func120, Tryz.ntmps120
  go_wp2
  go_returns
  exact ⟨rfl, rfl⟩
theorem rfull (w : World) : Calls Tryz.prog 110 #[] w fun e w' => e = .returned (.agg #[.int .u64 0, .int .u64 18446744073709551615]) ∧ w' = (w.alloc (.cells #[.int .u64 0, .int .u64 18446744073709551615] 26)).alloc (.cells #[.int .u64 0, .int .u64 18446744073709551615] 26) := by
  go_enter Tryz.func110, Tryz.ntmps110
  go_wp2_with (first
    | (go_at_call 120; refine (rspan _ _ _).mono ?_; rintro e w' ⟨rfl, hw⟩; subst hw))
  go_returns
  exact ⟨rfl, rfl⟩
theorem rall (w : World) : Calls Tryz.prog 111 #[] w fun e w' => e = .returned (.agg #[.int .i64 (-9223372036854775808), .int .i64 9223372036854775807]) ∧ w' = w.alloc (.cells #[.int .i64 (-9223372036854775808), .int .i64 9223372036854775807] 28) := by
  go_enter Tryz.func111, Tryz.ntmps111
  go_wp2
  go_returns
  exact ⟨rfl, rfl⟩
end Go.Proofs.YtekenpgagfmgkaaGreat
