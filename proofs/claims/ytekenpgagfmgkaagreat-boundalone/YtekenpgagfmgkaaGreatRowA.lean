/- Towards the statements of package span (layer 4): contracts of the small functions on rows, and of the closures. -/
import Derived.Test.YtekenpgagfmgkaaGreatSB
import Derived.Laws.Externs
namespace Go.Proofs.YtekenpgagfmgkaaGreat
open Go.ChangeShapes Go.WideShapes Go.ChangeAt Go.RowKit
set_option linter.unusedVariables false
set_option maxRecDepth 20000

theorem empty_u (l h : Int) (w : World) : Calls Tryz.prog 106 #[.agg #[.int .u64 l, .int .u64 h]] w fun e w' => e = .returned (.bool (decide (h < l))) ∧ w' = w.alloc (.cells #[.int .u64 l, .int .u64 h] 114) := by
  go_enter Tryz.func106, Tryz.ntmps106
  go_wp2
  go_ret
  exact ⟨rfl, rfl⟩
theorem nothing_u (w : World) : Calls Tryz.prog 175 #[] w fun e w' => e = .returned (.agg #[.int .u64 1, .int .u64 0]) ∧ w' = w.alloc (.cells #[.int .u64 1, .int .u64 0] 114) := by
  go_enter Tryz.func175, Tryz.ntmps175
  go_wp2
  go_returns
  exact ⟨rfl, rfl⟩
theorem whole_u (w : World) : Calls Tryz.prog 108 #[] w fun e w' => e = .returned (.agg #[.int .u64 0, .int .u64 18446744073709551615]) ∧ w' = w.alloc (.cells #[.int .u64 0, .int .u64 18446744073709551615] 26) := by
  go_enter Tryz.func108, Tryz.ntmps108
  go_wp2
  go_returns
  exact ⟨rfl, rfl⟩
theorem empty_s (l h : Int) (w : World) : Calls Tryz.prog 107 #[.agg #[.int .i64 l, .int .i64 h]] w fun e w' => e = .returned (.bool (decide (h < l))) ∧ w' = w.alloc (.cells #[.int .i64 l, .int .i64 h] 116) := by
  go_enter Tryz.func107, Tryz.ntmps107
  go_wp2
  go_ret
  exact ⟨rfl, rfl⟩
theorem nothing_s (w : World) : Calls Tryz.prog 176 #[] w fun e w' => e = .returned (.agg #[.int .i64 1, .int .i64 0]) ∧ w' = w.alloc (.cells #[.int .i64 1, .int .i64 0] 116) := by
  go_enter Tryz.func176, Tryz.ntmps176
  go_wp2
  go_returns
  exact ⟨rfl, rfl⟩
theorem whole_s (w : World) : Calls Tryz.prog 109 #[] w fun e w' => e = .returned (.agg #[.int .i64 (-9223372036854775808), .int .i64 9223372036854775807]) ∧ w' = w.alloc (.cells #[.int .i64 (-9223372036854775808), .int .i64 9223372036854775807] 28) := by
  go_enter Tryz.func109, Tryz.ntmps109
  go_wp2
  go_returns
  exact ⟨rfl, rfl⟩
theorem add64_run (x y : Int) (hx : InU x) (hy : InU y) (w : World) : (callFunc 207 #[.int .u64 x, .int .u64 y, .int .u64 0]).run Tryz.prog w = .ok (.value (.tuple #[.int .u64 (IntKind.u64.wrap (x + y)), .int .u64 ((x + y) / 18446744073709551616)])) w := by
  rw [run_callFunc_extern Tryz.func207 (by kernel_rfl) (by kernel_rfl) (by kernel_rfl) (e := add64Entry) (by kernel_rfl), run_add64 x y 0 hx.1 hy.1 (by omega) (by omega)]
  simp only [Result.andThen, Int.add_zero, IntKind.wrap_u64]
theorem add_c (x y : Int) (hx : InU x) (hy : InU y) (w : World) : Calls Tryz.prog 206 #[.int .u64 x, .int .u64 y] w fun e w' => e = .returned (.tuple #[.int .u64 (IntKind.u64.wrap (x + y)), .bool (decide (x + y ≤ 18446744073709551615))]) ∧ w' = w := by
  have hr := add64_run x y hx hy
  have hq : ((x + y) / 18446744073709551616 == 0) = decide (x + y ≤ 18446744073709551615) := by
    unfold InU at hx hy
    by_cases h : x + y ≤ 18446744073709551615
    · rw [decide_eq_true h, beq_iff_eq]; omega
    · rw [decide_eq_false h, beq_eq_false_iff_ne]; omega
  go_enter Tryz.func206, Tryz.ntmps206
  go_wp2
  go_returns
  exact ⟨rfl, rfl⟩
theorem sub_c (x y : Int) (hx : InU x) (hy : InU y) (w : World) : Calls Tryz.prog 210 #[.int .u64 x, .int .u64 y] w fun e w' => e = .returned (.tuple #[.int .u64 (IntKind.u64.wrap (x - y)), .bool (decide (y ≤ x))]) ∧ w' = w := by
  go_enter Tryz.func210, Tryz.ntmps210
  go_wp2
  go_returns
  exact ⟨rfl, rfl⟩
end Go.Proofs.YtekenpgagfmgkaaGreat
