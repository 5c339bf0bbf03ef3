/- Towards the statements of package alu (layer 2): what each closure of the table deeds reckons, for every two numbers; contracts of the thirteen. -/
import Derived.Test.YtmngficbohlnhaaTable
import Derived.Laws.ShiftsVarLaws
import Derived.Laws.ShiftsVar
namespace Go.Proofs.Ytmngficbohlnhaa
open Go.ChangeShapes Go.WideShapes Go.ChangeAt Go.RowKit
set_option linter.unusedVariables false

/-- What a code reckons of two numbers that are cut to the size already, ahead of the last cut. -/
def rawV (wd : Bool) (c a b : Int) : Int :=
  if c = 0 then IntKind.u64.wrap (a + b) else if c = 1 then IntKind.u64.wrap (a - b) else if c = 2 then IntKind.u64.wrap (a * b)
  else if c = 3 then a / b else if c = 9 then a % b
  else if c = 4 then bits .or .u64 a b else if c = 5 then bits .and .u64 a b else if c = 10 then bits .xor .u64 a b
  else if c = 6 then IntKind.u64.wrap (a * 2 ^ (b % (8 * sz wd)).toNat) else if c = 7 then a / 2 ^ (b % (8 * sz wd)).toNat
  else if c = 12 then IntKind.u64.wrap (signV a (sz wd) / 2 ^ (b % (8 * sz wd)).toNat)
  else if c = 8 then IntKind.u64.wrap (-a) else b

theorem mod_wrap {a b : Int} (ha : 0 ≤ a ∧ a ≤ 18446744073709551615) (hb : 0 ≤ b ∧ b ≤ 18446744073709551615) : IntKind.u64.wrap (a - IntKind.u64.wrap (b * (a / b))) = a % b := by
  have h0 : 0 ≤ a / b := Int.ediv_nonneg ha.1 hb.1
  have h1 : 0 ≤ b * (a / b) := Int.mul_nonneg hb.1 h0
  have h3 := Int.mul_ediv_add_emod a b
  have h4 : 0 ≤ a % b ∨ b = 0 := by
    by_cases hz : b = 0
    · exact Or.inr hz
    · exact Or.inl (Int.emod_nonneg a hz)
  have h5 : 0 ≤ a % b := by
    rcases h4 with h4 | h4
    · exact h4
    · rw [h4, Int.emod_zero]; exact ha.1
  rw [IntWalk.u64_in (b * (a / b)) ⟨by omega, by omega⟩, IntWalk.u64_in _ ⟨by omega, by omega⟩]
  omega

theorem c26 (wd : Bool) (a b : Int) (ha : 0 ≤ a ∧ a ≤ 18446744073709551615) (hb : 0 ≤ b ∧ b ≤ 18446744073709551615) (w : World) : Calls Try.prog 26 #[.int .u64 a, .int .u64 b] w fun e w' => e = .returned (.int .u64 (rawV wd 0 a b)) ∧ w' = w := by
  go_enter Try.func26, Try.ntmps26
  go_wp2
  go_ret
  exact ⟨rfl, rfl⟩
theorem c27 (wd : Bool) (a b : Int) (ha : 0 ≤ a ∧ a ≤ 18446744073709551615) (hb : 0 ≤ b ∧ b ≤ 18446744073709551615) (w : World) : Calls Try.prog 27 #[.int .u64 a, .int .u64 b] w fun e w' => e = .returned (.int .u64 (rawV wd 1 a b)) ∧ w' = w := by
  go_enter Try.func27, Try.ntmps27
  go_wp2
  go_ret
  exact ⟨rfl, rfl⟩
theorem c28 (wd : Bool) (a b : Int) (ha : 0 ≤ a ∧ a ≤ 18446744073709551615) (hb : 0 ≤ b ∧ b ≤ 18446744073709551615) (w : World) : Calls Try.prog 28 #[.int .u64 a, .int .u64 b] w fun e w' => e = .returned (.int .u64 (rawV wd 2 a b)) ∧ w' = w := by
  go_enter Try.func28, Try.ntmps28
  go_wp2
  go_ret
  exact ⟨rfl, rfl⟩
theorem c31 (wd : Bool) (a b : Int) (ha : 0 ≤ a ∧ a ≤ 18446744073709551615) (hb : 0 ≤ b ∧ b ≤ 18446744073709551615) (w : World) : Calls Try.prog 31 #[.int .u64 a, .int .u64 b] w fun e w' => e = .returned (.int .u64 (rawV wd 4 a b)) ∧ w' = w := by
  go_enter Try.func31, Try.ntmps31
  go_wp2
  go_ret
  exact ⟨rfl, rfl⟩
theorem c32 (wd : Bool) (a b : Int) (ha : 0 ≤ a ∧ a ≤ 18446744073709551615) (hb : 0 ≤ b ∧ b ≤ 18446744073709551615) (w : World) : Calls Try.prog 32 #[.int .u64 a, .int .u64 b] w fun e w' => e = .returned (.int .u64 (rawV wd 5 a b)) ∧ w' = w := by
  go_enter Try.func32, Try.ntmps32
  go_wp2
  go_ret
  exact ⟨rfl, rfl⟩
theorem c33 (wd : Bool) (a b : Int) (ha : 0 ≤ a ∧ a ≤ 18446744073709551615) (hb : 0 ≤ b ∧ b ≤ 18446744073709551615) (w : World) : Calls Try.prog 33 #[.int .u64 a, .int .u64 b] w fun e w' => e = .returned (.int .u64 (rawV wd 10 a b)) ∧ w' = w := by
  go_enter Try.func33, Try.ntmps33
  go_wp2
  go_ret
  exact ⟨rfl, rfl⟩
theorem c38 (wd : Bool) (a b : Int) (ha : 0 ≤ a ∧ a ≤ 18446744073709551615) (hb : 0 ≤ b ∧ b ≤ 18446744073709551615) (w : World) : Calls Try.prog 38 #[.int .u64 a, .int .u64 b] w fun e w' => e = .returned (.int .u64 (rawV wd 8 a b)) ∧ w' = w := by
  go_enter Try.func38, Try.ntmps38
  go_wp2
  go_ret
  exact ⟨rfl, rfl⟩
theorem c39 (wd : Bool) (a b : Int) (ha : 0 ≤ a ∧ a ≤ 18446744073709551615) (hb : 0 ≤ b ∧ b ≤ 18446744073709551615) (w : World) : Calls Try.prog 39 #[.int .u64 a, .int .u64 b] w fun e w' => e = .returned (.int .u64 (rawV wd 11 a b)) ∧ w' = w := by
  go_enter Try.func39, Try.ntmps39
  go_wp2
  go_ret
  exact ⟨rfl, rfl⟩
theorem c29 (wd : Bool) (a b : Int) (ha : 0 ≤ a ∧ a ≤ 18446744073709551615) (hb : 0 ≤ b ∧ b ≤ 18446744073709551615) (w : World) : Calls Try.prog 29 #[.int .u64 a, .int .u64 b] w fun e w' => e = .returned (.int .u64 (rawV wd 3 a b)) ∧ w' = w := by
  by_cases hz : b = 0
  · subst hz
    go_enter Try.func29, Try.ntmps29
    go_wp2
    go_ret
    exact ⟨ret_int (by rw [show rawV wd 3 a 0 = a / 0 from rfl, Int.ediv_zero]), rfl⟩
  · have hz' : (b == 0) = false := by simp [hz]
    go_enter Try.func29, Try.ntmps29
    go_wp2
    go_ret
    exact ⟨rfl, rfl⟩
theorem c30 (wd : Bool) (a b : Int) (ha : 0 ≤ a ∧ a ≤ 18446744073709551615) (hb : 0 ≤ b ∧ b ≤ 18446744073709551615) (w : World) : Calls Try.prog 30 #[.int .u64 a, .int .u64 b] w fun e w' => e = .returned (.int .u64 (rawV wd 9 a b)) ∧ w' = w := by
  have hm := mod_wrap ha hb
  go_enter Try.func30, Try.ntmps30
  go_wp2_with (go_at_call 29; refine (c29 wd a b ha hb _).mono ?_; rintro e w' ⟨rfl, rfl⟩)
  go_ret
  exact ⟨ret_int hm, rfl⟩
theorem c34 (wd : Bool) (a b : Int) (q : Nat) (ha : 0 ≤ a ∧ a ≤ 18446744073709551615) (hb : 0 ≤ b ∧ b ≤ 18446744073709551615) (w : World) (hq : w.cell? ⟨q, 0, none⟩ = some (.int .u64 (8 * sz wd))) : Calls Try.prog 34 #[.int .u64 a, .int .u64 b, .pointer (some ⟨q, 0, none⟩)] w fun e w' => e = .returned (.int .u64 (rawV wd 6 a b)) ∧ w' = w := by
  cases wd
  · rw [show 8 * sz false = 32 from rfl] at hq
    go_enter Try.func34, Try.ntmps34
    go_wp2
    go_ret
    exact ⟨rfl, rfl⟩
  · rw [show 8 * sz true = 64 from rfl] at hq
    go_enter Try.func34, Try.ntmps34
    go_wp2
    go_ret
    exact ⟨rfl, rfl⟩
theorem c35 (wd : Bool) (a b : Int) (q : Nat) (ha : 0 ≤ a ∧ a ≤ 18446744073709551615) (hb : 0 ≤ b ∧ b ≤ 18446744073709551615) (w : World) (hq : w.cell? ⟨q, 0, none⟩ = some (.int .u64 (8 * sz wd))) : Calls Try.prog 35 #[.int .u64 a, .int .u64 b, .pointer (some ⟨q, 0, none⟩)] w fun e w' => e = .returned (.int .u64 (rawV wd 7 a b)) ∧ w' = w := by
  cases wd
  · rw [show 8 * sz false = 32 from rfl] at hq
    go_enter Try.func35, Try.ntmps35
    go_wp2
    go_ret
    exact ⟨rfl, rfl⟩
  · rw [show 8 * sz true = 64 from rfl] at hq
    go_enter Try.func35, Try.ntmps35
    go_wp2
    go_ret
    exact ⟨rfl, rfl⟩

theorem gr_drewN (w : World) : ∀ n, Gr w (w.drewN n)
  | 0 => Gr.refl w
  | n + 1 => (gr_drewN w n).trans ⟨(Below.refl _ _).drew, (Grown.refl _).drew⟩

set_option maxHeartbeats 1000000 in
theorem c36 (wd : Bool) (a b : Int) (p q : Nat) (ha : 0 ≤ a ∧ a ≤ 18446744073709551615) (hb : 0 ≤ b ∧ b ≤ 18446744073709551615) (w : World) (hp : w.cell? ⟨p, 0, none⟩ = some (.int .i64 (sz wd))) (hq : w.cell? ⟨q, 0, none⟩ = some (.int .u64 (8 * sz wd))) : Calls Try.prog 36 #[.int .u64 a, .int .u64 b, .pointer (some ⟨p, 0, none⟩), .pointer (some ⟨q, 0, none⟩)] w fun e w' => e = .returned (.int .u64 (rawV wd 12 a b)) ∧ ∃ n, w' = w.drewN n := by
  cases wd
  · rw [show 8 * sz false = 32 from rfl] at hq
    rw [show sz false = 4 from rfl] at hp
    have hs : -9223372036854775808 ≤ signV a 4 ∧ signV a 4 ≤ 9223372036854775807 := by rw [signV4]; split <;> omega
    go_enter Try.func36, Try.ntmps36
    go_wp2
    go_quiet (first | (go_at_call 37; exact Calls.quiet_of_same (sign_any a 4 ha.1 ha.2 _)))
    go_wp2
    go_ret
    exact ⟨rfl, _, rfl⟩
  · rw [show 8 * sz true = 64 from rfl] at hq
    rw [show sz true = 8 from rfl] at hp
    have hs : -9223372036854775808 ≤ signV a 8 ∧ signV a 8 ≤ 9223372036854775807 := by rw [signV8]; split <;> omega
    go_enter Try.func36, Try.ntmps36
    go_wp2
    go_quiet (first | (go_at_call 37; exact Calls.quiet_of_same (sign_any a 8 ha.1 ha.2 _)))
    go_wp2
    go_ret
    exact ⟨rfl, _, rfl⟩
end Go.Proofs.Ytmngficbohlnhaa
