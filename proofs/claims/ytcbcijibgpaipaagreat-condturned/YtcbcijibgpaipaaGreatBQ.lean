/- Towards the statements of package bound (layer 5): what codes do with bounds: bits taken together, wide; the document's examples. -/
import Derived.Test.YtcbcijibgpaipaaGreatBL
import Derived.KernelRfl
namespace Go.Proofs.YtcbcijibgpaipaaGreat
open Go.ChangeShapes Go.WideShapes Go.ChangeAt Go.RowKit
open Tn (iv)
set_option linter.unusedVariables false
set_option maxRecDepth 20000

theorem rhalf (w : World) : Calls Tryz.prog 127 #[] w fun e w' => e = .returned (.agg #[.int .u64 0, .int .u64 4294967295]) ∧ w' = w.alloc (.cells #[.int .u64 0, .int .u64 4294967295] 26) := by
  go_enter Tryz.func127, Tryz.ntmps127
  go_wp2
  go_returns
  exact ⟨rfl, rfl⟩
theorem rsigned (w : World) : Calls Tryz.prog 128 #[] w fun e w' => e = .returned (.agg #[.int .i64 (-2147483648), .int .i64 2147483647]) ∧ w' = w.alloc (.cells #[.int .i64 (-2147483648), .int .i64 2147483647] 28) := by
  go_enter Tryz.func128, Tryz.ntmps128
  go_wp2
  go_returns
  exact ⟨rfl, rfl⟩
theorem rany (w : World) : Calls Tryz.prog 60 #[] w fun e w' => e = .returned (.agg #[.int .u64 0, .int .u64 18446744073709551615, .int .u64 0, .int .u64 18446744073709551615, .int .i64 (-9223372036854775808), .int .i64 9223372036854775807, .int .u64 0, .int .u64 4294967295, .int .i64 (-2147483648), .int .i64 2147483647]) ∧ Gr w w' := by
  go_enter Tryz.func60, Tryz.ntmps60
  go_wp2_with (first
    | (go_at_call 125; refine (rfull _).mono ?_; rintro e w' ⟨rfl, hw⟩; rw [hw]; clear hw)
    | (go_at_call 126; refine (rall _).mono ?_; rintro e w' ⟨rfl, hw⟩; rw [hw]; clear hw)
    | (go_at_call 127; refine (rhalf _).mono ?_; rintro e w' ⟨rfl, hw⟩; rw [hw]; clear hw)
    | (go_at_call 128; refine (rsigned _).mono ?_; rintro e w' ⟨rfl, hw⟩; rw [hw]; clear hw))
  go_returns
  exact ⟨rfl, by go_grown, by go_grown⟩
end Go.Proofs.YtcbcijibgpaipaaGreat
