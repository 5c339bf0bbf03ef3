/- Towards the statements of package bound (layer 5): a bound without a number, in each of the calls. -/
import Derived.Test.YtekenpgagfmgkaaGreatBV
import Derived.Test.YtekenpgagfmgkaaGreatBR
namespace Go.Proofs.YtekenpgagfmgkaaGreat
open Go.ChangeShapes Go.WideShapes Go.ChangeAt Go.RowKit
open Tn (iv)
set_option linter.unusedVariables false
set_option maxRecDepth 20000

theorem n_true (w : World) : Calls Tryz.prog 15 #[.agg #[.int .u64 0, .int .u64 0, .int .u64 1, .int .u64 0, .int .i64 1, .int .i64 0, .int .u64 1, .int .u64 0, .int .i64 1, .int .i64 0]] w fun e w' => e = .returned (.bool true) ∧ Gr w w' := None_q 0#64 0#64 1 0 1 0 1 0 1 0 true rfl w
theorem s_not (w : World) : Calls Tryz.prog 11 #[.agg #[.int .u64 0, .int .u64 0, .int .u64 1, .int .u64 0, .int .i64 1, .int .i64 0, .int .u64 1, .int .u64 0, .int .i64 1, .int .i64 0]] w fun e w' => e = .returned (.agg #[.int .u64 0, .int .u64 0, .int .u64 1, .int .u64 0, .int .i64 1, .int .i64 0, .int .u64 1, .int .u64 0, .int .i64 1, .int .i64 0]) ∧ Gr w w' := sync_b0 nothingM rfl w
theorem in_not (atv atm : BitVec 64) (aul auh asl ash awl awh avl avh : Int) (w : World) : Calls Tryz.prog 19 #[.agg #[.int .u64 0, .int .u64 0, .int .u64 1, .int .u64 0, .int .i64 1, .int .i64 0, .int .u64 1, .int .u64 0, .int .i64 1, .int .i64 0], .agg #[.int .u64 (iv atv), .int .u64 (iv atm), .int .u64 aul, .int .u64 auh, .int .i64 asl, .int .i64 ash, .int .u64 awl, .int .u64 awh, .int .i64 avl, .int .i64 avh]] w fun e w' => e = .returned (.bool true) ∧ Gr w w' := in_all 0#64 0#64 1 0 1 0 1 0 1 0 atv atm aul auh asl ash awl awh avl avh w
theorem has_not (x : BitVec 64) (w : World) : Calls Tryz.prog 18 #[.agg #[.int .u64 0, .int .u64 0, .int .u64 1, .int .u64 0, .int .i64 1, .int .i64 0, .int .u64 1, .int .u64 0, .int .i64 1, .int .i64 0], .int .u64 (iv x)] w fun e w' => e = .returned (.bool false) ∧ Gr w w' := by
  refine has_q 0#64 0#64 1 0 1 0 1 0 1 0 x false ?_ w
  have h : (decide (1 ≤ iv x) && decide (iv x ≤ 0)) = false := by
    cases h1 : decide (1 ≤ iv x)
    · rfl
    · have := of_decide_eq_true h1
      simp
      omega
  rw [h]
  simp
end Go.Proofs.YtekenpgagfmgkaaGreat
