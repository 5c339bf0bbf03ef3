/- Towards the statements of package alu (layer 2): what Does reckons, in numbers modulo a power of two, and the rules of numbers that follow. -/
import Derived.Test.YtmngficbohlnhaaTurn
namespace Go.Proofs.Ytmngficbohlnhaa
open Go.ChangeShapes Go.WideShapes Go.ChangeAt Go.RowKit
set_option linter.unusedVariables false

set_option maxHeartbeats 1000000 in
theorem does_fn (wd : Bool) (c a b : Int) (hc : 0 ≤ c) (ha : 0 ≤ a ∧ a ≤ 18446744073709551615) (hb : 0 ≤ b ∧ b ≤ 18446744073709551615) (w : World) : Calls Try.prog 17 #[.int .u8 c, .bool wd, .int .u64 a, .int .u64 b] w fun e w' => e = .returned (.int .u64 (doesV wd c a b)) ∧ Gr w w' := by
  have HG : Gr w w := Gr.refl w
  go_enter Try.func17, Try.ntmps17
  go_wp2_with (go_at_call 8; refine (does_any wd c a b hc ha hb _).mono ?_; rintro e w' ⟨rfl, hg⟩; replace HG := HG.trans hg; clear hg)
  go_ret
  exact ⟨rfl, HG⟩

def M (wd : Bool) : Int := if wd then 18446744073709551616 else 4294967296
def nb (wd : Bool) : Nat := if wd then 64 else 32
theorem M_pos (wd : Bool) : 0 < M wd := by cases wd <;> decide
theorem M_pow (wd : Bool) : M wd = 2 ^ nb wd := by cases wd <;> rfl
theorem low_M (wd : Bool) (x : Int) : lowV x (sz wd) = x % M wd := by
  cases wd
  · rw [show sz false = 4 from rfl, lowV4]; rfl
  · rw [show sz true = 8 from rfl, lowV8]; rfl
theorem wrap_M (wd : Bool) (x : Int) : IntKind.u64.wrap x % M wd = x % M wd := by
  rw [IntKind.wrap_u64]
  cases wd
  · show x % 18446744073709551616 % 4294967296 = x % 4294967296; omega
  · show x % 18446744073709551616 % 18446744073709551616 = x % 18446744073709551616; omega
theorem mm (x m : Int) : x % m % m = x % m := Int.emod_emod_of_dvd _ (Int.dvd_refl _)
theorem mulL (x y m : Int) : x % m * y % m = x * y % m := by rw [Int.mul_emod, mm, ← Int.mul_emod]
theorem mulR (x y m : Int) : x * (y % m) % m = x * y % m := by rw [Int.mul_emod, mm, ← Int.mul_emod]
theorem addL (x y m : Int) : (x % m + y) % m = (x + y) % m := by rw [Int.add_emod, mm, ← Int.add_emod]
theorem addR (x y m : Int) : (x + y % m) % m = (x + y) % m := by rw [Int.add_emod, mm, ← Int.add_emod]
theorem modM (wd : Bool) (x : Int) : 0 ≤ x % M wd ∧ x % M wd < M wd := ⟨Int.emod_nonneg _ (by have := M_pos wd; omega), Int.emod_lt_of_pos _ (M_pos wd)⟩
theorem M_le (wd : Bool) : M wd ≤ 18446744073709551616 := by cases wd <;> decide
theorem inM (wd : Bool) (x : Int) : 0 ≤ x % M wd ∧ x % M wd ≤ 18446744073709551615 := by have := modM wd x; have := M_le wd; omega

section
variable (wd : Bool) (a b : Int)
theorem D0 : doesV wd 0 a b = (a + b) % M wd := by
  rw [doesV, if_pos (by omega), low_M, low_M, low_M]
  show IntKind.u64.wrap (a % M wd + b % M wd) % M wd = _
  rw [wrap_M, addL, addR]
theorem D1 : doesV wd 1 a b = (a - b) % M wd := by
  rw [doesV, if_pos (by omega), low_M, low_M, low_M]
  show IntKind.u64.wrap (a % M wd - b % M wd) % M wd = _
  rw [wrap_M, ← Int.sub_emod]
theorem D2 : doesV wd 2 a b = a * b % M wd := by
  rw [doesV, if_pos (by omega), low_M, low_M, low_M]
  show IntKind.u64.wrap (a % M wd * (b % M wd)) % M wd = _
  rw [wrap_M, mulL, mulR]
theorem D8 : doesV wd 8 a b = -a % M wd := by
  rw [doesV, if_pos (by omega), low_M, low_M, low_M]
  show IntKind.u64.wrap (-(a % M wd)) % M wd = _
  rw [wrap_M, ← Int.zero_sub, Int.sub_emod, mm, ← Int.sub_emod, Int.zero_sub]
theorem D11 : doesV wd 11 a b = b % M wd := by
  rw [doesV, if_pos (by omega), low_M, low_M, low_M]
  exact mm _ _
theorem D3 : doesV wd 3 a b = a % M wd / (b % M wd) := by
  rw [doesV, if_pos (by omega), low_M, low_M, low_M]
  show a % M wd / (b % M wd) % M wd = _
  have h1 := modM wd a
  have h2 := modM wd b
  exact Int.emod_eq_of_lt (Int.ediv_nonneg h1.1 h2.1) (Int.lt_of_le_of_lt (Int.ediv_le_self _ h1.1) h1.2)
theorem D9 : doesV wd 9 a b = a % M wd % (b % M wd) := by
  rw [doesV, if_pos (by omega), low_M, low_M, low_M]
  show a % M wd % (b % M wd) % M wd = _
  have h1 := modM wd a
  have h2 := modM wd b
  by_cases hz : b % M wd = 0
  · rw [hz, Int.emod_zero]; exact mm _ _
  · have h3 := Int.emod_nonneg (a % M wd) hz
    have h4 := Int.emod_lt_of_pos (a % M wd) (by omega : 0 < b % M wd)
    exact Int.emod_eq_of_lt h3 (by omega)
theorem natM : (a % M wd).toNat < 2 ^ nb wd := by
  have h1 := modM wd a
  have h2 := M_pow wd
  have : ((a % M wd).toNat : Int) < ((2 ^ nb wd : Nat) : Int) := by rw [Int.toNat_of_nonneg h1.1, Int.natCast_pow]; simpa [← h2] using h1.2
  omega
theorem nat_in {n : Nat} (h : n < 2 ^ nb wd) : (n : Int) % M wd = n := by
  rw [M_pow]
  refine Int.emod_eq_of_lt (by omega) ?_
  have : (n : Int) < ((2 ^ nb wd : Nat) : Int) := by omega
  simpa using this
theorem D4 : doesV wd 4 a b = (((a % M wd).toNat ||| (b % M wd).toNat : Nat) : Int) := by
  rw [doesV, if_pos (by omega), low_M, low_M, low_M]
  show bits .or .u64 (a % M wd) (b % M wd) % M wd = _
  rw [or_nat _ _ (inM wd a) (inM wd b), nat_in wd (Nat.or_lt_two_pow (natM wd a) (natM wd b))]
theorem D5 : doesV wd 5 a b = (((a % M wd).toNat &&& (b % M wd).toNat : Nat) : Int) := by
  rw [doesV, if_pos (by omega), low_M, low_M, low_M]
  show bits .and .u64 (a % M wd) (b % M wd) % M wd = _
  rw [and_nat _ _ (inM wd a) (inM wd b), nat_in wd (Nat.and_lt_two_pow _ (natM wd b))]
theorem D10 : doesV wd 10 a b = (((a % M wd).toNat ^^^ (b % M wd).toNat : Nat) : Int) := by
  rw [doesV, if_pos (by omega), low_M, low_M, low_M]
  show bits .xor .u64 (a % M wd) (b % M wd) % M wd = _
  rw [xor_nat _ _ (inM wd a) (inM wd b), nat_in wd (Nat.xor_lt_two_pow (natM wd a) (natM wd b))]
theorem shM : (b % M wd % (8 * sz wd)).toNat = (b % (nb wd : Int)).toNat := by
  cases wd
  · show (b % 4294967296 % 32).toNat = (b % ((32 : Nat) : Int)).toNat; omega
  · show (b % 18446744073709551616 % 64).toNat = (b % ((64 : Nat) : Int)).toNat; omega
theorem D6 : doesV wd 6 a b = a * 2 ^ (b % (nb wd : Int)).toNat % M wd := by
  rw [doesV, if_pos (by omega), low_M, low_M, low_M]
  show IntKind.u64.wrap (a % M wd * 2 ^ (b % M wd % (8 * sz wd)).toNat) % M wd = _
  rw [wrap_M, mulL, shM]
theorem D7 : doesV wd 7 a b = a % M wd / 2 ^ (b % (nb wd : Int)).toNat := by
  rw [doesV, if_pos (by omega), low_M, low_M, low_M]
  show a % M wd / 2 ^ (b % M wd % (8 * sz wd)).toNat % M wd = _
  rw [shM]
  have h1 := modM wd a
  exact Int.emod_eq_of_lt (Int.ediv_nonneg h1.1 (Int.pow_nonneg (by omega))) (Int.lt_of_le_of_lt (Int.ediv_le_self _ h1.1) h1.2)
theorem D12 : doesV wd 12 a b = signV (a % M wd) (sz wd) / 2 ^ (b % (nb wd : Int)).toNat % M wd := by
  rw [doesV, if_pos (by omega), low_M, low_M, low_M]
  show IntKind.u64.wrap (signV (a % M wd) (sz wd) / 2 ^ (b % M wd % (8 * sz wd)).toNat) % M wd = _
  rw [wrap_M, shM]
end

theorem xor_and_or (x y : Nat) : (x &&& y) ^^^ (x ||| y) = x ^^^ y := by
  apply Nat.eq_of_testBit_eq
  intro i
  simp only [Nat.testBit_xor, Nat.testBit_and, Nat.testBit_or]
  cases x.testBit i <;> cases y.testBit i <;> rfl
theorem and_add_or : ∀ (x y : Nat), (x &&& y) + (x ||| y) = x + y := by
  intro x
  induction x using Nat.strongRecOn with
  | _ x ih =>
    intro y
    by_cases hx : x = 0
    · subst hx; simp
    · have h := ih (x / 2) (by omega) (y / 2)
      have e1 : (x &&& y) / 2 = x / 2 &&& y / 2 := Nat.and_div_two
      have e2 : (x ||| y) / 2 = x / 2 ||| y / 2 := Nat.or_div_two
      have e3 : (x &&& y) % 2 = 1 ↔ (x % 2 = 1 ∧ y % 2 = 1) := by
        have := Nat.testBit_and x y 0
        rw [Nat.testBit_zero, Nat.testBit_zero, Nat.testBit_zero] at this
        rw [← decide_eq_true_iff (p := (x &&& y) % 2 = 1), this, Bool.and_eq_true, decide_eq_true_iff, decide_eq_true_iff]
      have e4 : (x ||| y) % 2 = 1 ↔ (x % 2 = 1 ∨ y % 2 = 1) := by
        have := Nat.testBit_or x y 0
        rw [Nat.testBit_zero, Nat.testBit_zero, Nat.testBit_zero] at this
        rw [← decide_eq_true_iff (p := (x ||| y) % 2 = 1), this, Bool.or_eq_true, decide_eq_true_iff, decide_eq_true_iff]
      rw [← e1, ← e2] at h
      clear e1 e2 ih
      generalize x &&& y = u at *
      generalize x ||| y = v at *
      omega

section
variable (wd : Bool) (a b c : Int)
theorem ru1 : doesV wd 0 a b = doesV wd 0 b a := by rw [D0, D0, Int.add_comm]
theorem ru2 : doesV wd 2 a b = doesV wd 2 b a := by rw [D2, D2, Int.mul_comm]
theorem ru3 : doesV wd 0 (doesV wd 0 a b) c = doesV wd 0 a (doesV wd 0 b c) := by rw [D0, D0, D0, D0, addL, addR, Int.add_assoc]
theorem ru4 : doesV wd 2 (doesV wd 2 a b) c = doesV wd 2 a (doesV wd 2 b c) := by rw [D2, D2, D2, D2, mulL, mulR, Int.mul_assoc]
theorem ru5 : doesV wd 0 (doesV wd 1 a b) b = doesV wd 11 0 a := by rw [D0, D1, D11, addL, Int.sub_add_cancel]
theorem ru6 : doesV wd 0 a (doesV wd 8 a 0) = 0 := by rw [D0, D8, addR, Int.add_right_neg]; exact Int.zero_emod _
theorem ru7 : doesV wd 2 a (doesV wd 0 b c) = doesV wd 0 (doesV wd 2 a b) (doesV wd 2 a c) := by rw [D2, D0, D0, D2, D2, mulR, addL, addR, Int.mul_add]
theorem ru8 : doesV wd 0 (doesV wd 2 (doesV wd 3 a b) b) (doesV wd 9 a b) = doesV wd 11 0 a := by
  rw [D0, D2, D3, D9, D11, addL, ← addL, ← mulR, addL, Int.mul_comm, Int.mul_ediv_add_emod, mm]
theorem ru9 (h : doesV wd 11 0 b ≠ 0) : doesV wd 9 a b < doesV wd 11 0 b := by
  rw [D11] at h ⊢
  rw [D9]
  have := modM wd b
  exact Int.emod_lt_of_pos _ (by omega)
theorem ru10 : doesV wd 6 (doesV wd 11 0 a) c = doesV wd 6 a c := by rw [D6, D6, D11, mulL]
theorem ru11 : doesV wd 10 (doesV wd 5 a b) (doesV wd 4 a b) = doesV wd 10 a b := by
  rw [D10, D10, D5, D4, nat_in wd (Nat.and_lt_two_pow _ (natM wd b)), nat_in wd (Nat.or_lt_two_pow (natM wd a) (natM wd b))]
  rw [Int.toNat_natCast, Int.toNat_natCast, xor_and_or]
theorem ru12 : doesV wd 0 (doesV wd 5 a b) (doesV wd 4 a b) = doesV wd 0 a b := by
  have h1 := modM wd a
  have h2 := modM wd b
  rw [D0, D0, D5, D4, ← Int.natCast_add, and_add_or, Int.natCast_add, Int.toNat_of_nonneg h1.1, Int.toNat_of_nonneg h2.1, addL, addR]
end
end Go.Proofs.Ytmngficbohlnhaa
