/- Towards the statements of package alu (layer 2): shifts as products with, and quotients by, powers of two; one with a sign, below 0. -/
import Derived.Test.YtmngficbohlnhaaRules
namespace Go.Proofs.Ytmngficbohlnhaa
open Go.ChangeShapes Go.WideShapes Go.ChangeAt Go.RowKit
set_option linter.unusedVariables false

theorem xor_ones (w x : Nat) (h : x < 2 ^ w) : x ^^^ (2 ^ w - 1) = 2 ^ w - 1 - x := by
  have e : (BitVec.ofNat w x ^^^ BitVec.allOnes w).toNat = (~~~(BitVec.ofNat w x)).toNat := by rw [BitVec.xor_allOnes]
  rw [BitVec.toNat_xor, BitVec.toNat_not, BitVec.toNat_allOnes, BitVec.toNat_ofNat, Nat.mod_eq_of_lt h] at e
  exact e

theorem ones (wd : Bool) (x : Int) : doesV wd 10 x 18446744073709551615 = M wd - 1 - x % M wd := by
  have h1 := modM wd x
  have h2 : (18446744073709551615 % M wd).toNat = 2 ^ nb wd - 1 := by cases wd <;> decide
  have h3 : ((2 ^ nb wd : Nat) : Int) = M wd := by cases wd <;> rfl
  have h4 := natM wd x
  rw [D10, h2, xor_ones _ _ h4]
  omega

theorem pow_lt (wd : Bool) (n : Int) : (0 : Int) < 2 ^ (n % (nb wd : Int)).toNat ∧ (2 : Int) ^ (n % (nb wd : Int)).toNat < M wd := by
  have hk : (n % (nb wd : Int)).toNat < nb wd := by
    cases wd
    · show (n % 32).toNat < 32; omega
    · show (n % 64).toNat < 64; omega
  have h1 : (2 : Nat) ^ (n % (nb wd : Int)).toNat < 2 ^ nb wd := Nat.pow_lt_pow_right (by omega) hk
  have h2 : (0 : Nat) < (2 : Nat) ^ (n % (nb wd : Int)).toNat := Nat.two_pow_pos _
  rw [M_pow]
  have h3 : ((2 ^ (n % (nb wd : Int)).toNat : Nat) : Int) < ((2 ^ nb wd : Nat) : Int) := by omega
  have h4 : ((0 : Nat) : Int) < ((2 ^ (n % (nb wd : Int)).toNat : Nat) : Int) := by omega
  exact ⟨by simpa using h4, by simpa using h3⟩

theorem two_is (wd : Bool) (n : Int) : doesV true 6 1 (n % (nb wd : Int)) = 2 ^ (n % (nb wd : Int)).toNat := by
  have h := pow_lt wd n
  have hk : n % (nb wd : Int) % ((nb true : Nat) : Int) = n % (nb wd : Int) := by
    cases wd
    · show n % 32 % 64 = n % 32; omega
    · show n % 64 % 64 = n % 64; omega
  rw [D6, hk, Int.one_mul]
  have := M_le wd
  exact Int.emod_eq_of_lt (by omega) (show _ < (18446744073709551616 : Int) by omega)

theorem sh1 (wd : Bool) (a n : Int) : doesV wd 6 a n = doesV wd 2 a (doesV true 6 1 (n % (nb wd : Int))) := by
  rw [two_is, D6, D2]
theorem sh2 (wd : Bool) (a n : Int) : doesV wd 7 a n = doesV wd 3 a (doesV true 6 1 (n % (nb wd : Int))) := by
  have h := pow_lt wd n
  rw [two_is, D7, D3, Int.emod_eq_of_lt (by omega) h.2]

theorem neg_div (x d : Int) (hd : 0 < d) : -(x + 1) / d = -(x / d) - 1 := by
  have h1 := Int.mul_ediv_add_emod x d
  have h2 := Int.emod_nonneg x (by omega : d ≠ 0)
  have h3 := Int.emod_lt_of_pos x hd
  have e : d * (-(x / d) - 1) = -(d * (x / d)) - d := by rw [Int.mul_sub, Int.mul_neg, Int.mul_one]
  exact ((Int.ediv_emod_unique (r := d - 1 - x % d) hd).2 ⟨by rw [e]; omega, by omega, by omega⟩).1

theorem sh3 (wd : Bool) (a n : Int) (h : 2 * doesV wd 11 0 a < M wd) : doesV wd 12 a n = doesV wd 7 a n := by
  rw [D11] at h
  have h1 := modM wd a
  have hs : signV (a % M wd) (sz wd) = a % M wd := by
    cases wd
    · rw [show sz false = 4 from rfl, signV4]; simp only [show M false = 4294967296 from rfl] at *; rw [if_pos (by omega)]; omega
    · rw [show sz true = 8 from rfl, signV8]; simp only [show M true = 18446744073709551616 from rfl] at *; rw [if_pos (by omega)]; omega
  rw [D12, D7, hs]
  exact Int.emod_eq_of_lt (Int.ediv_nonneg h1.1 (Int.pow_nonneg (by omega))) (Int.lt_of_le_of_lt (Int.ediv_le_self _ h1.1) h1.2)

theorem sh4 (wd : Bool) (a n : Int) (h : ¬ 2 * doesV wd 11 0 a < M wd) : doesV wd 12 a n = doesV wd 10 (doesV wd 7 (doesV wd 10 a 18446744073709551615) n) 18446744073709551615 := by
  rw [D11] at h
  have h1 := modM wd a
  have hs : signV (a % M wd) (sz wd) = -((M wd - 1 - a % M wd) + 1) := by
    cases wd
    · rw [show sz false = 4 from rfl, signV4]; simp only [show M false = 4294967296 from rfl] at *; rw [if_neg (by omega)]; omega
    · rw [show sz true = 8 from rfl, signV8]; simp only [show M true = 18446744073709551616 from rfl] at *; rw [if_neg (by omega)]; omega
  have hp := pow_lt wd n
  have hx : 0 ≤ M wd - 1 - a % M wd := by omega
  have hq0 := Int.ediv_nonneg hx (by omega : 0 ≤ (2 : Int) ^ (n % (nb wd : Int)).toNat)
  have hq1 := Int.ediv_le_self ((2 : Int) ^ (n % (nb wd : Int)).toNat) hx
  have e1 : (M wd - 1 - a % M wd) % M wd = M wd - 1 - a % M wd := Int.emod_eq_of_lt hx (by omega)
  rw [D12, hs, neg_div _ _ hp.1, ones, D7, ones, e1]
  generalize (M wd - 1 - a % M wd) / (2 : Int) ^ (n % (nb wd : Int)).toNat = q at *
  rw [Int.emod_eq_of_lt (a := q) hq0 (by omega)]
  have e2 : -q - 1 = (M wd - 1 - q) + M wd * (-1) := by omega
  rw [e2, Int.add_mul_emod_self_left]
  exact Int.emod_eq_of_lt (by omega) (by omega)
end Go.Proofs.Ytmngficbohlnhaa
