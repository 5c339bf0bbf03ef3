/- Towards the statements of package alu (layer 2): with 32 bits all hangs on the lower bits of both numbers; what is reckoned with 64 bits of two numbers below 2 to the power of 32, cut. -/
import Derived.Test.YtmngficbohlnhaaRules
namespace Go.Proofs.Ytmngficbohlnhaa
open Go.ChangeShapes Go.WideShapes Go.ChangeAt Go.RowKit
set_option linter.unusedVariables false

theorem and_mask (x : Int) (hx : 0 ≤ x ∧ x ≤ 18446744073709551615) : bits .and .u64 x 4294967295 = x % 4294967296 := by
  rw [and_nat x 4294967295 hx (by omega)]
  have e : x.toNat &&& (4294967295 : Int).toNat = x.toNat % 4294967296 := Nat.and_two_pow_sub_one_eq_mod x.toNat 32
  rw [e]
  omega

theorem mix1 (a u : Int) (ha : 0 ≤ a ∧ a ≤ 18446744073709551615) (hu : 0 ≤ u ∧ u ≤ 18446744073709551615) :
    ∃ C : Int, bits .or .u64 (bits .and .u64 a 4294967295) (IntKind.u64.wrap (u * 4294967296)) = C ∧ (0 ≤ C ∧ C ≤ 18446744073709551615) ∧ C % 4294967296 = a % 4294967296 := by
  have e : IntKind.u64.wrap (u * 4294967296) = u % 4294967296 * ((4294967296 : Nat) : Int) := by rw [IntKind.wrap_u64]; omega
  rw [and_mask a ha, e, or_step (a % 4294967296) (u % 4294967296) 32 4294967296 (by decide) (by omega) (by omega) (by omega) (by omega)]
  exact ⟨_, rfl, by omega, by omega⟩
theorem mix2 (a u : Int) (ha : 0 ≤ a ∧ a ≤ 18446744073709551615) (hu : 0 ≤ u ∧ u ≤ 18446744073709551615) :
    ∃ C : Int, bits .or .u64 (bits .and .u64 a 4294967295) (u / 4294967296 * 4294967296) = C ∧ (0 ≤ C ∧ C ≤ 18446744073709551615) ∧ C % 4294967296 = a % 4294967296 := by
  have h := or_step (a % 4294967296) (u / 4294967296) 32 4294967296 (by decide) (by omega) (by omega) (by omega) (by omega)
  rw [show ((4294967296 : Nat) : Int) = 4294967296 from rfl] at h
  rw [and_mask a ha, h]
  exact ⟨_, rfl, by omega, by omega⟩

theorem low_eq {x y : Int} (h : x % 4294967296 = y % 4294967296) : lowV x (sz false) = lowV y (sz false) := by
  rw [low_M, low_M]; exact h
theorem does_low {a b c d : Int} (k : Int) (h1 : c % 4294967296 = a % 4294967296) (h2 : d % 4294967296 = b % 4294967296) : doesV false k c d = doesV false k a b := by
  rw [doesV, doesV, low_eq h1, low_eq h2]
theorem asks_low {a b c d : Int} (k : Int) (h1 : c % 4294967296 = a % 4294967296) (h2 : d % 4294967296 = b % 4294967296) : asksV false k c d = asksV false k a b := by
  rw [asksV, asksV, low_eq h1, low_eq h2]
theorem does_high (k a b : Int) : doesV false k a b / 4294967296 = 0 := by
  rw [doesV]
  split
  · rw [low_M, show M false = 4294967296 from rfl]; omega
  · rfl

theorem cutF (a b : Int) (ha : 0 ≤ a ∧ a < 4294967296) (hb : 0 ≤ b ∧ b < 4294967296) : a % M false = a ∧ b % M false = b := ⟨Int.emod_eq_of_lt ha.1 ha.2, Int.emod_eq_of_lt hb.1 hb.2⟩
theorem cutT (a b : Int) (ha : 0 ≤ a ∧ a < 4294967296) (hb : 0 ≤ b ∧ b < 4294967296) : a % M true = a ∧ b % M true = b := ⟨Int.emod_eq_of_lt ha.1 (show a < 18446744073709551616 by omega), Int.emod_eq_of_lt hb.1 (show b < 18446744073709551616 by omega)⟩
theorem na0 (a b : Int) (ha : 0 ≤ a ∧ a < 4294967296) (hb : 0 ≤ b ∧ b < 4294967296) : doesV false 0 a b = doesV true 0 a b % 4294967296 := by
  rw [D0, D0, show M false = 4294967296 from rfl, show M true = 18446744073709551616 from rfl]; omega
theorem na1 (a b : Int) (ha : 0 ≤ a ∧ a < 4294967296) (hb : 0 ≤ b ∧ b < 4294967296) : doesV false 1 a b = doesV true 1 a b % 4294967296 := by
  rw [D1, D1, show M false = 4294967296 from rfl, show M true = 18446744073709551616 from rfl]; omega
theorem na2 (a b : Int) (ha : 0 ≤ a ∧ a < 4294967296) (hb : 0 ≤ b ∧ b < 4294967296) : doesV false 2 a b = doesV true 2 a b % 4294967296 := by
  rw [D2, D2, show M false = 4294967296 from rfl, show M true = 18446744073709551616 from rfl, Int.emod_emod_of_dvd _ (by decide)]
theorem na3 (a b : Int) (ha : 0 ≤ a ∧ a < 4294967296) (hb : 0 ≤ b ∧ b < 4294967296) : doesV false 3 a b = doesV true 3 a b % 4294967296 := by
  have h := Int.ediv_le_self b ha.1
  rw [D3, D3, (cutF a b ha hb).1, (cutF a b ha hb).2, (cutT a b ha hb).1, (cutT a b ha hb).2]
  exact (Int.emod_eq_of_lt (Int.ediv_nonneg ha.1 hb.1) (by omega)).symm
theorem na9 (a b : Int) (ha : 0 ≤ a ∧ a < 4294967296) (hb : 0 ≤ b ∧ b < 4294967296) : doesV false 9 a b = doesV true 9 a b % 4294967296 := by
  rw [D9, D9, (cutF a b ha hb).1, (cutF a b ha hb).2, (cutT a b ha hb).1, (cutT a b ha hb).2]
  by_cases hz : b = 0
  · rw [hz, Int.emod_zero]; omega
  · have h3 := Int.emod_nonneg a hz
    have h4 := Int.emod_lt_of_pos a (by omega : 0 < b)
    exact (Int.emod_eq_of_lt h3 (by omega)).symm
theorem na11 (a b : Int) (ha : 0 ≤ a ∧ a < 4294967296) (hb : 0 ≤ b ∧ b < 4294967296) : doesV false 11 a b = doesV true 11 a b % 4294967296 := by
  rw [D11, D11, (cutF a b ha hb).2, (cutT a b ha hb).2]; omega
theorem na4 (a b : Int) (ha : 0 ≤ a ∧ a < 4294967296) (hb : 0 ≤ b ∧ b < 4294967296) : doesV false 4 a b = doesV true 4 a b % 4294967296 := by
  have h : a.toNat ||| b.toNat < 2 ^ 32 := Nat.or_lt_two_pow (by omega) (by omega)
  rw [D4, D4, (cutF a b ha hb).1, (cutF a b ha hb).2, (cutT a b ha hb).1, (cutT a b ha hb).2]; omega
theorem na5 (a b : Int) (ha : 0 ≤ a ∧ a < 4294967296) (hb : 0 ≤ b ∧ b < 4294967296) : doesV false 5 a b = doesV true 5 a b % 4294967296 := by
  have h : a.toNat &&& b.toNat < 2 ^ 32 := Nat.and_lt_two_pow _ (by omega)
  rw [D5, D5, (cutF a b ha hb).1, (cutF a b ha hb).2, (cutT a b ha hb).1, (cutT a b ha hb).2]; omega
theorem na10 (a b : Int) (ha : 0 ≤ a ∧ a < 4294967296) (hb : 0 ≤ b ∧ b < 4294967296) : doesV false 10 a b = doesV true 10 a b % 4294967296 := by
  have h : a.toNat ^^^ b.toNat < 2 ^ 32 := Nat.xor_lt_two_pow (by omega) (by omega)
  rw [D10, D10, (cutF a b ha hb).1, (cutF a b ha hb).2, (cutT a b ha hb).1, (cutT a b ha hb).2]; omega
end Go.Proofs.Ytmngficbohlnhaa
