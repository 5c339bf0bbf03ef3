/- Towards the statements of package span (layer 4): spans and reaches about a number; what has a number, told. -/
import Derived.Test.YtkfjjpdcbdbdiabSmall
namespace Go.Proofs.Ytkfjjpdcbdbdiab
open Go.ChangeShapes Go.WideShapes Go.ChangeAt Go.RowKit
set_option linter.unusedVariables false
set_option maxRecDepth 20000

set_option maxHeartbeats 4000000 in
theorem round_any (x p q : Int) (hx : InU x) (hp : InU p) (hq : InU q) (w : World) : Calls Try.prog 25 #[.int .u64 x, .int .u64 p, .int .u64 q] w fun e w' => e = .returned (.agg #[.int .u64 (x - min x p), .int .u64 (x + min (18446744073709551615 - x) q)]) ∧ Gr w w' := by
  unfold InU at hx hp hq
  have s1 : IntKind.u64.wrap (18446744073709551615 - x) = 18446744073709551615 - x := wrap_inU (by unfold InU; omega)
  rcases Int.lt_or_le p x with h1 | h1 <;> rcases Int.lt_or_le q (18446744073709551615 - x) with h2 | h2
  · rw [show min x p = p by omega, show min (18446744073709551615 - x) q = q by omega]
    have s2 : IntKind.u64.wrap (x - p) = x - p := wrap_inU (by unfold InU; omega)
    have s3 : IntKind.u64.wrap (x + q) = x + q := wrap_inU (by unfold InU; omega)
    go_enter Try.func25, Try.ntmps25
    go_wp2
    all_goals first | omega | skip
    all_goals go_returns
    all_goals exact ⟨by first | rfl | (simp; done) | (simp <;> omega), by go_grown, by go_grown⟩
  · rw [show min x p = p by omega, show min (18446744073709551615 - x) q = (18446744073709551615 - x) by omega]
    have s2 : IntKind.u64.wrap (x - p) = x - p := wrap_inU (by unfold InU; omega)
    have s3 : IntKind.u64.wrap (x + (18446744073709551615 - x)) = x + (18446744073709551615 - x) := wrap_inU (by unfold InU; omega)
    go_enter Try.func25, Try.ntmps25
    go_wp2
    all_goals first | omega | skip
    all_goals go_returns
    all_goals exact ⟨by first | rfl | (simp; done) | (simp <;> omega), by go_grown, by go_grown⟩
  · rw [show min x p = x by omega, show min (18446744073709551615 - x) q = q by omega]
    have s2 : IntKind.u64.wrap (x - x) = x - x := wrap_inU (by unfold InU; omega)
    have s3 : IntKind.u64.wrap (x + q) = x + q := wrap_inU (by unfold InU; omega)
    go_enter Try.func25, Try.ntmps25
    go_wp2
    all_goals first | omega | skip
    all_goals go_returns
    all_goals exact ⟨by first | rfl | (simp; done) | (simp <;> omega), by go_grown, by go_grown⟩
  · rw [show min x p = x by omega, show min (18446744073709551615 - x) q = (18446744073709551615 - x) by omega]
    have s2 : IntKind.u64.wrap (x - x) = x - x := wrap_inU (by unfold InU; omega)
    have s3 : IntKind.u64.wrap (x + (18446744073709551615 - x)) = x + (18446744073709551615 - x) := wrap_inU (by unfold InU; omega)
    go_enter Try.func25, Try.ntmps25
    go_wp2
    all_goals first | omega | skip
    all_goals go_returns
    all_goals exact ⟨by first | rfl | (simp; done) | (simp <;> omega), by go_grown, by go_grown⟩
theorem Has_eu (l h x : Int) (b : Bool) (hb : (decide (l ≤ x) && decide (x ≤ h)) = b) (w : World) : Calls Try.prog 27 #[.agg #[.int .u64 l, .int .u64 h], .int .u64 x] w fun e w' => e = .returned (.bool b) ∧ Gr w w' := by
  subst hb
  exact (Has_u l h x w).mono fun e w' ⟨he, hw⟩ => ⟨he, hw ▸ ⟨by go_grown, by go_grown⟩⟩
theorem Has_es (l h x : Int) (b : Bool) (hb : (decide (l ≤ x) && decide (x ≤ h)) = b) (w : World) : Calls Try.prog 28 #[.agg #[.int .i64 l, .int .i64 h], .int .i64 x] w fun e w' => e = .returned (.bool b) ∧ Gr w w' := by
  subst hb
  exact (Has_s l h x w).mono fun e w' ⟨he, hw⟩ => ⟨he, hw ▸ ⟨by go_grown, by go_grown⟩⟩
end Go.Proofs.Ytkfjjpdcbdbdiab
