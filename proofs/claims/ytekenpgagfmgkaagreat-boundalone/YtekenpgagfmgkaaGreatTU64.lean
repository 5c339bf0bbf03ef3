/- Numbers of 64 bits without a sign as bit vectors: what the walk's words for sums, differences, products, bits and shifts are of them. -/
import Derived.Test.YtekenpgagfmgkaaGreatRows
import Derived.WalkKit
import Derived.WalkSpells
import Derived.Laws.BitsAllLaws
namespace Go.Proofs.YtekenpgagfmgkaaGreat.Tn
open Go.RowKit
set_option linter.unusedVariables false

def iv (x : BitVec 64) : Int := (x.toNat : Int)
theorem iv_bd (x : BitVec 64) : 0 ≤ iv x ∧ iv x ≤ 18446744073709551615 := by have := x.isLt; unfold iv; omega
theorem iv_of (a : Int) (h : 0 ≤ a ∧ a ≤ 18446744073709551615) : ∃ x, a = iv x :=
  ⟨BitVec.ofNat 64 a.toNat, by rw [iv, BitVec.toNat_ofNat, Nat.mod_eq_of_lt (by omega)]; omega⟩
theorem iv_inj {x y : BitVec 64} (h : iv x = iv y) : x = y := by
  apply BitVec.eq_of_toNat_eq
  unfold iv at h
  omega
theorem iv_lit (n : Nat) (h : n < 18446744073709551616) : iv (BitVec.ofNat 64 n) = n := by
  rw [iv, BitVec.toNat_ofNat, Nat.mod_eq_of_lt h]
theorem iv_add (x y : BitVec 64) : IntKind.u64.wrap (iv x + iv y) = iv (x + y) := by
  rw [IntKind.wrap_u64, iv, iv, iv, BitVec.toNat_add]; omega
theorem iv_sub (x y : BitVec 64) : IntKind.u64.wrap (iv x - iv y) = iv (x - y) := by
  have := y.isLt
  rw [IntKind.wrap_u64, iv, iv, iv, BitVec.toNat_sub]; omega
theorem iv_neg (x : BitVec 64) : IntKind.u64.wrap (-iv x) = iv (-x) := by
  have := x.isLt
  rw [IntKind.wrap_u64, iv, iv, BitVec.toNat_neg]; omega
theorem iv_mul (x y : BitVec 64) : IntKind.u64.wrap (iv x * iv y) = iv (x * y) := by
  rw [IntKind.wrap_u64, iv, iv, iv, BitVec.toNat_mul, Int.natCast_emod, Int.natCast_mul]; rfl
theorem iv_and (x y : BitVec 64) : bits .and .u64 (iv x) (iv y) = iv (x &&& y) := by
  rw [iv, iv, iv, BitVec.toNat_and]; exact Go.u64_and_nat _ _ x.isLt y.isLt
theorem iv_or (x y : BitVec 64) : bits .or .u64 (iv x) (iv y) = iv (x ||| y) := by
  rw [iv, iv, iv, BitVec.toNat_or]; exact Go.u64_or_nat _ _ x.isLt y.isLt
theorem iv_xor (x y : BitVec 64) : bits .xor .u64 (iv x) (iv y) = iv (x ^^^ y) := by
  rw [iv, iv, iv, BitVec.toNat_xor]; exact Go.u64_xor_nat _ _ x.isLt y.isLt
theorem iv_andNot (x y : BitVec 64) : bits .andNot .u64 (iv x) (iv y) = iv (x &&& ~~~y) := by
  rw [iv, iv, iv, BitVec.toNat_and, BitVec.toNat_not]; exact Go.u64_andNot_nat _ _ x.isLt y.isLt
theorem iv_shl (x : BitVec 64) (n : Nat) : IntKind.u64.wrap (iv x * 2 ^ n) = iv (x <<< n) := by
  have e : ((2 ^ n : Nat) : Int) = (2 : Int) ^ n := by simp
  rw [IntKind.wrap_u64, iv, iv, BitVec.toNat_shiftLeft, Nat.shiftLeft_eq, Int.natCast_emod, Int.natCast_mul, e]; rfl
theorem iv_shr (x : BitVec 64) (n : Nat) : iv x / 2 ^ n = iv (x >>> n) := by
  have e : ((2 ^ n : Nat) : Int) = (2 : Int) ^ n := by simp
  rw [iv, iv, BitVec.toNat_ushiftRight, Nat.shiftRight_eq_div_pow, Int.natCast_ediv, e]
theorem iv_eq (x y : BitVec 64) : (iv x == iv y) = (x == y) := by
  by_cases h : x = y
  · subst h; rw [beq_self_eq_true, beq_self_eq_true]
  · rw [beq_eq_false_iff_ne.2 h]; exact beq_eq_false_iff_ne.2 fun e => h (iv_inj e)
theorem iv_ne (x y : BitVec 64) : (iv x != iv y) = (x != y) := by
  show (!(iv x == iv y)) = !(x == y)
  rw [iv_eq]
theorem iv_lt (x y : BitVec 64) : decide (iv x < iv y) = decide (x < y) := by
  by_cases h : x < y
  · have : x.toNat < y.toNat := h
    rw [decide_eq_true h, decide_eq_true (by unfold iv; omega)]
  · have : ¬ x.toNat < y.toNat := h
    rw [decide_eq_false h, decide_eq_false (by unfold iv; omega)]
theorem iv_le (x y : BitVec 64) : decide (iv x ≤ iv y) = decide (x ≤ y) := by
  by_cases h : x ≤ y
  · have : x.toNat ≤ y.toNat := h
    rw [decide_eq_true h, decide_eq_true (by unfold iv; omega)]
  · have : ¬ x.toNat ≤ y.toNat := h
    rw [decide_eq_false h, decide_eq_false (by unfold iv; omega)]
/-- With a sign: what word's Sign, or a conversion, makes of it. -/
theorem iv_sign (x : BitVec 64) : IntKind.i64.wrap (iv x) = x.toInt := by
  have := x.isLt
  rw [IntKind.wrap_i64, iv, BitVec.toInt_eq_toNat_cond]; split <;> omega
theorem iv_unsign (x : BitVec 64) : IntKind.u64.wrap x.toInt = iv x := by
  have := x.isLt
  rw [IntKind.wrap_u64, iv, BitVec.toInt_eq_toNat_cond]; split <;> omega
theorem iv_sar (x : BitVec 64) (n : Nat) : x.toInt / 2 ^ n = (x.sshiftRight n).toInt := by
  rw [BitVec.toInt_sshiftRight, Int.shiftRight_eq_div_pow]; simp
end Go.Proofs.YtekenpgagfmgkaaGreat.Tn
