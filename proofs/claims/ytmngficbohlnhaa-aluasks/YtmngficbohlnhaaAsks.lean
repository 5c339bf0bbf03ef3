/- Towards the statements of package alu (layer 2): what each closure of the table questions answers, for every two numbers; contracts of the twelve, of above and of sign. -/
import Derived.Test.YtmngficbohlnhaaDeeds
namespace Go.Proofs.Ytmngficbohlnhaa
open Go.ChangeShapes Go.WideShapes Go.ChangeAt Go.RowKit
set_option linter.unusedVariables false

/-- What a code asks of two numbers that are cut to the size already. -/
def askV (wd : Bool) (c a b : Int) : Bool :=
  if c = 0 then true else if c = 1 then a == b else if c = 5 then a != b else if c = 4 then bits .and .u64 a b != 0
  else if c = 2 then decide (b < a) else if c = 3 then !decide (a < b) else if c = 10 then decide (a < b) else if c = 11 then !decide (b < a)
  else if c = 6 then decide (signV b (sz wd) < signV a (sz wd)) else if c = 7 then !decide (signV a (sz wd) < signV b (sz wd))
  else if c = 12 then decide (signV a (sz wd) < signV b (sz wd)) else if c = 13 then !decide (signV b (sz wd) < signV a (sz wd)) else false

theorem above_u (a b : Int) (w : World) : Calls Try.prog 50 #[.int .u64 a, .int .u64 b] w fun e w' => e = .returned (.bool (decide (b < a))) ∧ w' = w := by
  go_enter Try.func50, Try.ntmps50
  go_wp2
  go_ret
  exact ⟨rfl, rfl⟩
theorem above_i (a b : Int) (w : World) : Calls Try.prog 55 #[.int .i64 a, .int .i64 b] w fun e w' => e = .returned (.bool (decide (b < a))) ∧ w' = w := by
  go_enter Try.func55, Try.ntmps55
  go_wp2
  go_ret
  exact ⟨rfl, rfl⟩
theorem c44 (wd : Bool) (a : Int) (p : Nat) (ha : 0 ≤ a ∧ a ≤ 18446744073709551615) (w : World) (hp : w.cell? ⟨p, 0, none⟩ = some (.int .i64 (sz wd))) : Calls Try.prog 44 #[.int .u64 a, .pointer (some ⟨p, 0, none⟩)] w fun e w' => e = .returned (.int .i64 (signV a (sz wd))) ∧ w' = w := by
  go_enter Try.func44, Try.ntmps44
  go_wp2_with (go_at_call 37; refine (sign_any a _ ha.1 ha.2 _).mono ?_; rintro e w' ⟨rfl, rfl⟩)
  go_ret
  exact ⟨rfl, rfl⟩
theorem c45 (wd : Bool) (a b : Int) (ha : 0 ≤ a ∧ a ≤ 18446744073709551615) (hb : 0 ≤ b ∧ b ≤ 18446744073709551615) (w : World) : Calls Try.prog 45 #[.int .u64 a, .int .u64 b] w fun e w' => e = .returned (.bool (askV wd 0 a b)) ∧ w' = w := by
  go_enter Try.func45, Try.ntmps45
  go_wp2
  go_ret
  exact ⟨rfl, rfl⟩
theorem c46 (wd : Bool) (a b : Int) (ha : 0 ≤ a ∧ a ≤ 18446744073709551615) (hb : 0 ≤ b ∧ b ≤ 18446744073709551615) (w : World) : Calls Try.prog 46 #[.int .u64 a, .int .u64 b] w fun e w' => e = .returned (.bool (askV wd 1 a b)) ∧ w' = w := by
  go_enter Try.func46, Try.ntmps46
  go_wp2
  go_ret
  exact ⟨rfl, rfl⟩
theorem c47 (wd : Bool) (a b : Int) (ha : 0 ≤ a ∧ a ≤ 18446744073709551615) (hb : 0 ≤ b ∧ b ≤ 18446744073709551615) (w : World) : Calls Try.prog 47 #[.int .u64 a, .int .u64 b] w fun e w' => e = .returned (.bool (askV wd 5 a b)) ∧ w' = w := by
  go_enter Try.func47, Try.ntmps47
  go_wp2
  go_ret
  exact ⟨rfl, rfl⟩
theorem c48 (wd : Bool) (a b : Int) (ha : 0 ≤ a ∧ a ≤ 18446744073709551615) (hb : 0 ≤ b ∧ b ≤ 18446744073709551615) (w : World) : Calls Try.prog 48 #[.int .u64 a, .int .u64 b] w fun e w' => e = .returned (.bool (askV wd 4 a b)) ∧ w' = w := by
  go_enter Try.func48, Try.ntmps48
  go_wp2
  go_ret
  exact ⟨rfl, rfl⟩
theorem c49 (wd : Bool) (a b : Int) (ha : 0 ≤ a ∧ a ≤ 18446744073709551615) (hb : 0 ≤ b ∧ b ≤ 18446744073709551615) (w : World) : Calls Try.prog 49 #[.int .u64 a, .int .u64 b] w fun e w' => e = .returned (.bool (askV wd 2 a b)) ∧ w' = w := by
  go_enter Try.func49, Try.ntmps49
  go_wp2_with (go_at_call 50; refine (above_u _ _ _).mono ?_; rintro e w' ⟨rfl, rfl⟩)
  go_ret
  exact ⟨rfl, rfl⟩
theorem c51 (wd : Bool) (a b : Int) (ha : 0 ≤ a ∧ a ≤ 18446744073709551615) (hb : 0 ≤ b ∧ b ≤ 18446744073709551615) (w : World) : Calls Try.prog 51 #[.int .u64 a, .int .u64 b] w fun e w' => e = .returned (.bool (askV wd 3 a b)) ∧ w' = w := by
  go_enter Try.func51, Try.ntmps51
  go_wp2_with (go_at_call 50; refine (above_u _ _ _).mono ?_; rintro e w' ⟨rfl, rfl⟩)
  go_ret
  exact ⟨rfl, rfl⟩
theorem c52 (wd : Bool) (a b : Int) (ha : 0 ≤ a ∧ a ≤ 18446744073709551615) (hb : 0 ≤ b ∧ b ≤ 18446744073709551615) (w : World) : Calls Try.prog 52 #[.int .u64 a, .int .u64 b] w fun e w' => e = .returned (.bool (askV wd 10 a b)) ∧ w' = w := by
  go_enter Try.func52, Try.ntmps52
  go_wp2_with (go_at_call 50; refine (above_u _ _ _).mono ?_; rintro e w' ⟨rfl, rfl⟩)
  go_ret
  exact ⟨rfl, rfl⟩
theorem c53 (wd : Bool) (a b : Int) (ha : 0 ≤ a ∧ a ≤ 18446744073709551615) (hb : 0 ≤ b ∧ b ≤ 18446744073709551615) (w : World) : Calls Try.prog 53 #[.int .u64 a, .int .u64 b] w fun e w' => e = .returned (.bool (askV wd 11 a b)) ∧ w' = w := by
  go_enter Try.func53, Try.ntmps53
  go_wp2_with (go_at_call 50; refine (above_u _ _ _).mono ?_; rintro e w' ⟨rfl, rfl⟩)
  go_ret
  exact ⟨rfl, rfl⟩
theorem c54 (wd : Bool) (a b : Int) (p q : Nat) (ha : 0 ≤ a ∧ a ≤ 18446744073709551615) (hb : 0 ≤ b ∧ b ≤ 18446744073709551615) (w : World) (hp : ∀ n, (w.drewN n).cell? ⟨p, 0, none⟩ = some (.int .i64 (sz wd))) (hq : w.cell? ⟨q, 0, none⟩ = some (fv 44 [p])) : Calls Try.prog 54 #[.int .u64 a, .int .u64 b, .pointer (some ⟨q, 0, none⟩)] w fun e w' => e = .returned (.bool (askV wd 6 a b)) ∧ ∃ n, w' = w.drewN n := by
  have hq' : w.cell? ⟨q, 0, none⟩ = some (.func (.func 44) #[] #[.pointer (some ⟨p, 0, none⟩)]) := hq
  clear hq
  go_enter Try.func54, Try.ntmps54
  go_wp2
  go_quiet (first | (go_at_call 44; first | exact Calls.quiet_of_same (c44 wd a p ha _ (hp _)) | exact Calls.quiet_of_same (c44 wd b p hb _ (hp _))) | (go_at_call 55; exact Calls.quiet_of_same (above_i _ _ _)))
  go_wp2
  go_ret
  exact ⟨rfl, _, rfl⟩
theorem c56 (wd : Bool) (a b : Int) (p q : Nat) (ha : 0 ≤ a ∧ a ≤ 18446744073709551615) (hb : 0 ≤ b ∧ b ≤ 18446744073709551615) (w : World) (hp : ∀ n, (w.drewN n).cell? ⟨p, 0, none⟩ = some (.int .i64 (sz wd))) (hq : w.cell? ⟨q, 0, none⟩ = some (fv 44 [p])) : Calls Try.prog 56 #[.int .u64 a, .int .u64 b, .pointer (some ⟨q, 0, none⟩)] w fun e w' => e = .returned (.bool (askV wd 7 a b)) ∧ ∃ n, w' = w.drewN n := by
  have hq' : w.cell? ⟨q, 0, none⟩ = some (.func (.func 44) #[] #[.pointer (some ⟨p, 0, none⟩)]) := hq
  clear hq
  go_enter Try.func56, Try.ntmps56
  go_wp2
  go_quiet (first | (go_at_call 44; first | exact Calls.quiet_of_same (c44 wd a p ha _ (hp _)) | exact Calls.quiet_of_same (c44 wd b p hb _ (hp _))) | (go_at_call 55; exact Calls.quiet_of_same (above_i _ _ _)))
  go_wp2
  go_ret
  exact ⟨rfl, _, rfl⟩
theorem c57 (wd : Bool) (a b : Int) (p q : Nat) (ha : 0 ≤ a ∧ a ≤ 18446744073709551615) (hb : 0 ≤ b ∧ b ≤ 18446744073709551615) (w : World) (hp : ∀ n, (w.drewN n).cell? ⟨p, 0, none⟩ = some (.int .i64 (sz wd))) (hq : w.cell? ⟨q, 0, none⟩ = some (fv 44 [p])) : Calls Try.prog 57 #[.int .u64 a, .int .u64 b, .pointer (some ⟨q, 0, none⟩)] w fun e w' => e = .returned (.bool (askV wd 12 a b)) ∧ ∃ n, w' = w.drewN n := by
  have hq' : w.cell? ⟨q, 0, none⟩ = some (.func (.func 44) #[] #[.pointer (some ⟨p, 0, none⟩)]) := hq
  clear hq
  go_enter Try.func57, Try.ntmps57
  go_wp2
  go_quiet (first | (go_at_call 44; first | exact Calls.quiet_of_same (c44 wd a p ha _ (hp _)) | exact Calls.quiet_of_same (c44 wd b p hb _ (hp _))) | (go_at_call 55; exact Calls.quiet_of_same (above_i _ _ _)))
  go_wp2
  go_ret
  exact ⟨rfl, _, rfl⟩
theorem c58 (wd : Bool) (a b : Int) (p q : Nat) (ha : 0 ≤ a ∧ a ≤ 18446744073709551615) (hb : 0 ≤ b ∧ b ≤ 18446744073709551615) (w : World) (hp : ∀ n, (w.drewN n).cell? ⟨p, 0, none⟩ = some (.int .i64 (sz wd))) (hq : w.cell? ⟨q, 0, none⟩ = some (fv 44 [p])) : Calls Try.prog 58 #[.int .u64 a, .int .u64 b, .pointer (some ⟨q, 0, none⟩)] w fun e w' => e = .returned (.bool (askV wd 13 a b)) ∧ ∃ n, w' = w.drewN n := by
  have hq' : w.cell? ⟨q, 0, none⟩ = some (.func (.func 44) #[] #[.pointer (some ⟨p, 0, none⟩)]) := hq
  clear hq
  go_enter Try.func58, Try.ntmps58
  go_wp2
  go_quiet (first | (go_at_call 44; first | exact Calls.quiet_of_same (c44 wd a p ha _ (hp _)) | exact Calls.quiet_of_same (c44 wd b p hb _ (hp _))) | (go_at_call 55; exact Calls.quiet_of_same (above_i _ _ _)))
  go_wp2
  go_ret
  exact ⟨rfl, _, rfl⟩
end Go.Proofs.Ytmngficbohlnhaa
