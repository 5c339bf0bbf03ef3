/- Towards the statements of package insn (layer 7): registers in their order, each once: contracts of rising, of two registers at most. -/
import Derived.Test.YthbmgfnifolcbaaKT
import Derived.Lib.Strings
namespace Go.Proofs.Ythbmgfnifolcbaa
open Go.ChangeShapes Go.WideShapes Go.ChangeAt Go.RowKit
set_option linter.unusedVariables false
set_option linter.unusedSimpArgs false
set_option maxRecDepth 20000

theorem len64_few (a : Int) (h0 : 0 ≤ a) (h1 : a < 256) (w : World) : Calls Try.prog 78 #[.int .u64 a] w fun e w' => (∃ m, e = .returned (.int .i64 m)) ∧ w' = w := by
  have d32 : decide (4294967296 ≤ a) = false := by simp; omega
  have d16 : decide (65536 ≤ a) = false := by simp; omega
  have d8 : decide (256 ≤ a) = false := by simp; omega
  go_enter Try.func78, Try.ntmps78
  go_wp2
  go_ret
  exact ⟨⟨_, rfl⟩, rfl⟩
theorem len_few (a : Int) (h0 : 0 ≤ a) (h1 : a < 256) (w : World) : Calls Try.prog 67 #[.int .u64 a] w fun e w' => (∃ m, e = .returned (.int .i64 m)) ∧ w' = w := by
  go_enter Try.func67, Try.ntmps67
  go_wp2_with (first | (go_at_call 78; refine (len64_few _ h0 h1 _).mono ?_; rintro e w' ⟨⟨m, rfl⟩, hw⟩; rw [hw]; clear hw w'))
  go_returns
  exact ⟨⟨_, rfl⟩, rfl⟩

theorem pdq_few (a : Option Addr) (n cap : Nat) (hn : n ≤ 1) (m : Int) (w : World) : Calls Try.prog 66 #[.slice a n cap, .int .i64 0, .int .i64 n, .int .i64 m] w fun e w' => (∃ v, e = .returned v) ∧ w' = w := by
  go_enter Try.func66, Try.ntmps66
  go_wp2
  refine wp_loop_rounds 1 ?_
  rw [rounds_succ]
  go_wp2_with (first | (go_at_call 68; refine (ins_few _ _ _ hn _).mono ?_; rintro e w' ⟨⟨v, rfl⟩, hw⟩; rw [hw]; clear hw w'))
  go_returns
  exact ⟨⟨_, rfl⟩, rfl⟩
theorem sort_few (a : Option Addr) (n cap : Nat) (hn : n ≤ 1) (w : World) : Calls Try.prog 63 #[.slice a n cap] w fun e w' => (∃ v, e = .returned v) ∧ w' = w := by
  go_enter Try.func63, Try.ntmps63
  go_wp2_with (first | (go_at_call 67; refine (len_few _ (by omega) (by omega) _).mono ?_; rintro e w' ⟨⟨m, rfl⟩, hw⟩; rw [hw]; clear hw w') | (go_at_call 66; refine (pdq_few _ _ _ hn _ _ ).mono ?_; rintro e w' ⟨⟨v, rfl⟩, hw⟩; rw [hw]; clear hw w'))
  go_returns
  exact ⟨⟨_, rfl⟩, rfl⟩
theorem pdq_swap (g cap : Nat) (x y : Int) (h : decide (y < x) = true) (m : Int) (w : World) (hr : R2 w g x y) : Calls Try.prog 66 #[.slice (some ⟨g, 0, none⟩) 2 cap, .int .i64 0, .int .i64 2, .int .i64 m] w fun e w' => (∃ v, e = .returned v) ∧ R2 w' g y x ∧ GX g w w' := by
  go_enter Try.func66, Try.ntmps66
  go_wp2
  refine wp_loop_rounds 1 ?_
  rw [rounds_succ]
  go_wp2_with (first | (go_at_call 68; refine (ins2_swap _ _ _ _ _ hr h).mono ?_; rintro e w' ⟨⟨v, rfl⟩, hr2, hx⟩))
  go_returns
  exact ⟨⟨_, rfl⟩, hr2, hx⟩
theorem sort_swap (g cap : Nat) (x y : Int) (h : decide (y < x) = true) (w : World) (hr : R2 w g x y) : Calls Try.prog 63 #[.slice (some ⟨g, 0, none⟩) 2 cap] w fun e w' => (∃ v, e = .returned v) ∧ R2 w' g y x ∧ GX g w w' := by
  go_enter Try.func63, Try.ntmps63
  go_wp2_with (first | (go_at_call 67; refine (len_few _ (by omega) (by omega) _).mono ?_; rintro e w' ⟨⟨m, rfl⟩, hw⟩; rw [hw]; clear hw w') | (go_at_call 66; refine (pdq_swap _ _ _ _ h _ _ hr).mono ?_; rintro e w' ⟨⟨v, rfl⟩, hr2, hx⟩))
  go_returns
  exact ⟨⟨_, rfl⟩, hr2, hx⟩
theorem pdq_keep (g cap : Nat) (x y : Int) (h : decide (y < x) = false) (m : Int) (w : World) (hr : R2 w g x y) : Calls Try.prog 66 #[.slice (some ⟨g, 0, none⟩) 2 cap, .int .i64 0, .int .i64 2, .int .i64 m] w fun e w' => (∃ v, e = .returned v) ∧ R2 w' g x y ∧ GX g w w' := by
  go_enter Try.func66, Try.ntmps66
  go_wp2
  refine wp_loop_rounds 1 ?_
  rw [rounds_succ]
  go_wp2_with (first | (go_at_call 68; refine (ins2_keep _ _ _ _ _ hr h).mono ?_; rintro e w' ⟨⟨v, rfl⟩, hr2, hx⟩))
  go_returns
  exact ⟨⟨_, rfl⟩, hr2, hx⟩
theorem sort_keep (g cap : Nat) (x y : Int) (h : decide (y < x) = false) (w : World) (hr : R2 w g x y) : Calls Try.prog 63 #[.slice (some ⟨g, 0, none⟩) 2 cap] w fun e w' => (∃ v, e = .returned v) ∧ R2 w' g x y ∧ GX g w w' := by
  go_enter Try.func63, Try.ntmps63
  go_wp2_with (first | (go_at_call 67; refine (len_few _ (by omega) (by omega) _).mono ?_; rintro e w' ⟨⟨m, rfl⟩, hw⟩; rw [hw]; clear hw w') | (go_at_call 66; refine (pdq_keep _ _ _ _ h _ _ hr).mono ?_; rintro e w' ⟨⟨v, rfl⟩, hr2, hx⟩))
  go_returns
  exact ⟨⟨_, rfl⟩, hr2, hx⟩
end Go.Proofs.Ythbmgfnifolcbaa
