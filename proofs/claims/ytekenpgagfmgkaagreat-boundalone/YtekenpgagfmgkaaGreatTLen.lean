/- Towards the statements of package tnum (layer 3): how many bits a number has: contract of Len64, for every number. -/
import Derived.Test.YtekenpgagfmgkaaGreatTPlain
import Derived.Lib.Strings
namespace Go.Proofs.YtekenpgagfmgkaaGreat.Tn
open Go.ChangeShapes Go.WideShapes Go.ChangeAt Go.RowKit
set_option linter.unusedVariables false
set_option maxRecDepth 20000

def lenN (n : Nat) : Nat := if n = 0 then 0 else Nat.log2 n + 1
theorem tab_at (n : Nat) (h : n < (ByteArray.mk #[0, 1, 2, 2, 3, 3, 3, 3, 4, 4, 4, 4, 4, 4, 4, 4, 5, 5, 5, 5, 5, 5, 5, 5, 5, 5, 5, 5, 5, 5, 5, 5, 6, 6, 6, 6, 6, 6, 6, 6, 6, 6, 6, 6, 6, 6, 6, 6, 6, 6, 6, 6, 6, 6, 6, 6, 6, 6, 6, 6, 6, 6, 6, 6, 7, 7, 7, 7, 7, 7, 7, 7, 7, 7, 7, 7, 7, 7, 7, 7, 7, 7, 7, 7, 7, 7, 7, 7, 7, 7, 7, 7, 7, 7, 7, 7, 7, 7, 7, 7, 7, 7, 7, 7, 7, 7, 7, 7, 7, 7, 7, 7, 7, 7, 7, 7, 7, 7, 7, 7, 7, 7, 7, 7, 7, 7, 7, 7, 8, 8, 8, 8, 8, 8, 8, 8, 8, 8, 8, 8, 8, 8, 8, 8, 8, 8, 8, 8, 8, 8, 8, 8, 8, 8, 8, 8, 8, 8, 8, 8, 8, 8, 8, 8, 8, 8, 8, 8, 8, 8, 8, 8, 8, 8, 8, 8, 8, 8, 8, 8, 8, 8, 8, 8, 8, 8, 8, 8, 8, 8, 8, 8, 8, 8, 8, 8, 8, 8, 8, 8, 8, 8, 8, 8, 8, 8, 8, 8, 8, 8, 8, 8, 8, 8, 8, 8, 8, 8, 8, 8, 8, 8, 8, 8, 8, 8, 8, 8, 8, 8, 8, 8, 8, 8, 8, 8, 8, 8, 8, 8, 8, 8, 8, 8, 8, 8, 8, 8, 8, 8, 8, 8, 8, 8, 8, 8]).size) : (ByteArray.mk #[0, 1, 2, 2, 3, 3, 3, 3, 4, 4, 4, 4, 4, 4, 4, 4, 5, 5, 5, 5, 5, 5, 5, 5, 5, 5, 5, 5, 5, 5, 5, 5, 6, 6, 6, 6, 6, 6, 6, 6, 6, 6, 6, 6, 6, 6, 6, 6, 6, 6, 6, 6, 6, 6, 6, 6, 6, 6, 6, 6, 6, 6, 6, 6, 7, 7, 7, 7, 7, 7, 7, 7, 7, 7, 7, 7, 7, 7, 7, 7, 7, 7, 7, 7, 7, 7, 7, 7, 7, 7, 7, 7, 7, 7, 7, 7, 7, 7, 7, 7, 7, 7, 7, 7, 7, 7, 7, 7, 7, 7, 7, 7, 7, 7, 7, 7, 7, 7, 7, 7, 7, 7, 7, 7, 7, 7, 7, 7, 8, 8, 8, 8, 8, 8, 8, 8, 8, 8, 8, 8, 8, 8, 8, 8, 8, 8, 8, 8, 8, 8, 8, 8, 8, 8, 8, 8, 8, 8, 8, 8, 8, 8, 8, 8, 8, 8, 8, 8, 8, 8, 8, 8, 8, 8, 8, 8, 8, 8, 8, 8, 8, 8, 8, 8, 8, 8, 8, 8, 8, 8, 8, 8, 8, 8, 8, 8, 8, 8, 8, 8, 8, 8, 8, 8, 8, 8, 8, 8, 8, 8, 8, 8, 8, 8, 8, 8, 8, 8, 8, 8, 8, 8, 8, 8, 8, 8, 8, 8, 8, 8, 8, 8, 8, 8, 8, 8, 8, 8, 8, 8, 8, 8, 8, 8, 8, 8, 8, 8, 8, 8, 8, 8, 8, 8, 8, 8])[n].toNat = lenN n := by
  have key : ∀ k : Fin 256, ((ByteArray.mk #[0, 1, 2, 2, 3, 3, 3, 3, 4, 4, 4, 4, 4, 4, 4, 4, 5, 5, 5, 5, 5, 5, 5, 5, 5, 5, 5, 5, 5, 5, 5, 5, 6, 6, 6, 6, 6, 6, 6, 6, 6, 6, 6, 6, 6, 6, 6, 6, 6, 6, 6, 6, 6, 6, 6, 6, 6, 6, 6, 6, 6, 6, 6, 6, 7, 7, 7, 7, 7, 7, 7, 7, 7, 7, 7, 7, 7, 7, 7, 7, 7, 7, 7, 7, 7, 7, 7, 7, 7, 7, 7, 7, 7, 7, 7, 7, 7, 7, 7, 7, 7, 7, 7, 7, 7, 7, 7, 7, 7, 7, 7, 7, 7, 7, 7, 7, 7, 7, 7, 7, 7, 7, 7, 7, 7, 7, 7, 7, 8, 8, 8, 8, 8, 8, 8, 8, 8, 8, 8, 8, 8, 8, 8, 8, 8, 8, 8, 8, 8, 8, 8, 8, 8, 8, 8, 8, 8, 8, 8, 8, 8, 8, 8, 8, 8, 8, 8, 8, 8, 8, 8, 8, 8, 8, 8, 8, 8, 8, 8, 8, 8, 8, 8, 8, 8, 8, 8, 8, 8, 8, 8, 8, 8, 8, 8, 8, 8, 8, 8, 8, 8, 8, 8, 8, 8, 8, 8, 8, 8, 8, 8, 8, 8, 8, 8, 8, 8, 8, 8, 8, 8, 8, 8, 8, 8, 8, 8, 8, 8, 8, 8, 8, 8, 8, 8, 8, 8, 8, 8, 8, 8, 8, 8, 8, 8, 8, 8, 8, 8, 8, 8, 8, 8, 8, 8, 8]).data.getD k.val 0).toNat = lenN k.val := by decide +kernel
  have h' : n < 256 := h
  have e := key ⟨n, h'⟩
  rw [← e]
  congr 1
  simp only [Array.getD]
  rw [dif_pos (show n < (ByteArray.mk #[0, 1, 2, 2, 3, 3, 3, 3, 4, 4, 4, 4, 4, 4, 4, 4, 5, 5, 5, 5, 5, 5, 5, 5, 5, 5, 5, 5, 5, 5, 5, 5, 6, 6, 6, 6, 6, 6, 6, 6, 6, 6, 6, 6, 6, 6, 6, 6, 6, 6, 6, 6, 6, 6, 6, 6, 6, 6, 6, 6, 6, 6, 6, 6, 7, 7, 7, 7, 7, 7, 7, 7, 7, 7, 7, 7, 7, 7, 7, 7, 7, 7, 7, 7, 7, 7, 7, 7, 7, 7, 7, 7, 7, 7, 7, 7, 7, 7, 7, 7, 7, 7, 7, 7, 7, 7, 7, 7, 7, 7, 7, 7, 7, 7, 7, 7, 7, 7, 7, 7, 7, 7, 7, 7, 7, 7, 7, 7, 8, 8, 8, 8, 8, 8, 8, 8, 8, 8, 8, 8, 8, 8, 8, 8, 8, 8, 8, 8, 8, 8, 8, 8, 8, 8, 8, 8, 8, 8, 8, 8, 8, 8, 8, 8, 8, 8, 8, 8, 8, 8, 8, 8, 8, 8, 8, 8, 8, 8, 8, 8, 8, 8, 8, 8, 8, 8, 8, 8, 8, 8, 8, 8, 8, 8, 8, 8, 8, 8, 8, 8, 8, 8, 8, 8, 8, 8, 8, 8, 8, 8, 8, 8, 8, 8, 8, 8, 8, 8, 8, 8, 8, 8, 8, 8, 8, 8, 8, 8, 8, 8, 8, 8, 8, 8, 8, 8, 8, 8, 8, 8, 8, 8, 8, 8, 8, 8, 8, 8, 8, 8, 8, 8, 8, 8, 8, 8]).data.size from h)]
  rfl
theorem lenN_up (n k : Nat) (h : 2 ^ k ≤ n) : lenN n = k + lenN (n / 2 ^ k) := by
  have hp : 0 < 2 ^ k := Nat.two_pow_pos k
  have h1 : n ≠ 0 := by omega
  have h2 : 1 ≤ n / 2 ^ k := (Nat.le_div_iff_mul_le hp).2 (by omega)
  rw [lenN, if_neg h1, lenN, if_neg (by omega)]
  have a1 : 2 ^ (n / 2 ^ k).log2 ≤ n / 2 ^ k := Nat.log2_self_le (by omega)
  have a2 : n / 2 ^ k < 2 ^ ((n / 2 ^ k).log2 + 1) := Nat.lt_log2_self
  have b1 : 2 ^ ((n / 2 ^ k).log2 + k) ≤ n := by
    rw [Nat.pow_add]; exact (Nat.le_div_iff_mul_le hp).1 a1
  have b2 : n < 2 ^ ((n / 2 ^ k).log2 + 1 + k) := by
    rw [Nat.pow_add]; exact (Nat.div_lt_iff_lt_mul hp).1 a2
  have c1 : (n / 2 ^ k).log2 + k ≤ n.log2 := (Nat.le_log2 h1).2 b1
  have c2 : n.log2 < (n / 2 ^ k).log2 + 1 + k := (Nat.log2_lt h1).2 b2
  omega

set_option maxHeartbeats 1000000 in
theorem len0 (a : Int) (h0 : 0 ≤ a) (h1 : a < 18446744073709551616) (c0 : (a < 4294967296)) (c1 : (a < 65536)) (c2 : (a < 256)) (w : World) : Calls Tryz.prog 174 #[.int .u64 a] w fun e w' => e = .returned (.int .i64 (0 + lenN (a).toNat : Nat)) ∧ w' = w := by
  have e0 : 0 ≤ a := by omega
  have e1 : a < 256 := by omega
  have d32 : decide (4294967296 ≤ a) = false := by simp; omega
  have d16 : decide (65536 ≤ a) = false := by simp; omega
  have d8 : decide (256 ≤ a) = false := by simp; omega
  go_enter Tryz.func174, Tryz.ntmps174
  go_wp2
  go_ret
  refine ⟨?_, rfl⟩
  have e2 : lenN (a).toNat ≤ 8 := by
    have : ∀ k : Fin 256, lenN k.val ≤ 8 := by decide +kernel
    exact this ⟨(a).toNat, by omega⟩
  show Ending.returned (.int .i64 _) = _
  rw [tab_at]
  have e3 : wrap64 ((lenN (a).toNat : Nat) : Int) = (lenN (a).toNat : Nat) := by simp only [wrap64]; omega
  have e4 : wrap64 (0 + (lenN (a).toNat : Nat) : Int) = ((0 + lenN (a).toNat : Nat) : Int) := by simp only [wrap64]; omega
  first
    | rw [e3, e4]
    | (rw [e3, e3]; simp only [Nat.zero_add])
    | (rw [e3]; simp only [Nat.zero_add])
set_option maxHeartbeats 1000000 in
theorem len1 (a : Int) (h0 : 0 ≤ a) (h1 : a < 18446744073709551616) (c0 : (a < 4294967296)) (c1 : (a < 65536)) (c2 : (256 ≤ a)) (w : World) : Calls Tryz.prog 174 #[.int .u64 a] w fun e w' => e = .returned (.int .i64 (8 + lenN (a / 256).toNat : Nat)) ∧ w' = w := by
  have e0 : 0 ≤ a / 256 := by omega
  have e1 : a / 256 < 256 := by omega
  have d32 : decide (4294967296 ≤ a) = false := by simp; omega
  have d16 : decide (65536 ≤ a) = false := by simp; omega
  have d8 : decide (256 ≤ a) = true := by simp; omega
  go_enter Tryz.func174, Tryz.ntmps174
  go_wp2
  go_ret
  refine ⟨?_, rfl⟩
  have e2 : lenN (a / 256).toNat ≤ 8 := by
    have : ∀ k : Fin 256, lenN k.val ≤ 8 := by decide +kernel
    exact this ⟨(a / 256).toNat, by omega⟩
  show Ending.returned (.int .i64 _) = _
  rw [tab_at]
  have e3 : wrap64 ((lenN (a / 256).toNat : Nat) : Int) = (lenN (a / 256).toNat : Nat) := by simp only [wrap64]; omega
  have e4 : wrap64 (8 + (lenN (a / 256).toNat : Nat) : Int) = ((8 + lenN (a / 256).toNat : Nat) : Int) := by simp only [wrap64]; omega
  first
    | rw [e3, e4]
    | (rw [e3, e3]; simp only [Nat.zero_add])
    | (rw [e3]; simp only [Nat.zero_add])
set_option maxHeartbeats 1000000 in
theorem len2 (a : Int) (h0 : 0 ≤ a) (h1 : a < 18446744073709551616) (c0 : (a < 4294967296)) (c1 : (65536 ≤ a)) (c2 : (a / 65536 < 256)) (w : World) : Calls Tryz.prog 174 #[.int .u64 a] w fun e w' => e = .returned (.int .i64 (16 + lenN (a / 65536).toNat : Nat)) ∧ w' = w := by
  have e0 : 0 ≤ a / 65536 := by omega
  have e1 : a / 65536 < 256 := by omega
  have d32 : decide (4294967296 ≤ a) = false := by simp; omega
  have d16 : decide (65536 ≤ a) = true := by simp; omega
  have d8 : decide (256 ≤ a / 65536) = false := by simp; omega
  go_enter Tryz.func174, Tryz.ntmps174
  go_wp2
  go_ret
  refine ⟨?_, rfl⟩
  have e2 : lenN (a / 65536).toNat ≤ 8 := by
    have : ∀ k : Fin 256, lenN k.val ≤ 8 := by decide +kernel
    exact this ⟨(a / 65536).toNat, by omega⟩
  show Ending.returned (.int .i64 _) = _
  rw [tab_at]
  have e3 : wrap64 ((lenN (a / 65536).toNat : Nat) : Int) = (lenN (a / 65536).toNat : Nat) := by simp only [wrap64]; omega
  have e4 : wrap64 (16 + (lenN (a / 65536).toNat : Nat) : Int) = ((16 + lenN (a / 65536).toNat : Nat) : Int) := by simp only [wrap64]; omega
  first
    | rw [e3, e4]
    | (rw [e3, e3]; simp only [Nat.zero_add])
    | (rw [e3]; simp only [Nat.zero_add])
set_option maxHeartbeats 1000000 in
theorem len3 (a : Int) (h0 : 0 ≤ a) (h1 : a < 18446744073709551616) (c0 : (a < 4294967296)) (c1 : (65536 ≤ a)) (c2 : (256 ≤ a / 65536)) (w : World) : Calls Tryz.prog 174 #[.int .u64 a] w fun e w' => e = .returned (.int .i64 (24 + lenN (a / 65536 / 256).toNat : Nat)) ∧ w' = w := by
  have e0 : 0 ≤ a / 65536 / 256 := by omega
  have e1 : a / 65536 / 256 < 256 := by omega
  have d32 : decide (4294967296 ≤ a) = false := by simp; omega
  have d16 : decide (65536 ≤ a) = true := by simp; omega
  have d8 : decide (256 ≤ a / 65536) = true := by simp; omega
  go_enter Tryz.func174, Tryz.ntmps174
  go_wp2
  go_ret
  refine ⟨?_, rfl⟩
  have e2 : lenN (a / 65536 / 256).toNat ≤ 8 := by
    have : ∀ k : Fin 256, lenN k.val ≤ 8 := by decide +kernel
    exact this ⟨(a / 65536 / 256).toNat, by omega⟩
  show Ending.returned (.int .i64 _) = _
  rw [tab_at]
  have e3 : wrap64 ((lenN (a / 65536 / 256).toNat : Nat) : Int) = (lenN (a / 65536 / 256).toNat : Nat) := by simp only [wrap64]; omega
  have e4 : wrap64 (24 + (lenN (a / 65536 / 256).toNat : Nat) : Int) = ((24 + lenN (a / 65536 / 256).toNat : Nat) : Int) := by simp only [wrap64]; omega
  first
    | rw [e3, e4]
    | (rw [e3, e3]; simp only [Nat.zero_add])
    | (rw [e3]; simp only [Nat.zero_add])
set_option maxHeartbeats 1000000 in
theorem len4 (a : Int) (h0 : 0 ≤ a) (h1 : a < 18446744073709551616) (c0 : (4294967296 ≤ a)) (c1 : (a / 4294967296 < 65536)) (c2 : (a / 4294967296 < 256)) (w : World) : Calls Tryz.prog 174 #[.int .u64 a] w fun e w' => e = .returned (.int .i64 (32 + lenN (a / 4294967296).toNat : Nat)) ∧ w' = w := by
  have e0 : 0 ≤ a / 4294967296 := by omega
  have e1 : a / 4294967296 < 256 := by omega
  have d32 : decide (4294967296 ≤ a) = true := by simp; omega
  have d16 : decide (65536 ≤ a / 4294967296) = false := by simp; omega
  have d8 : decide (256 ≤ a / 4294967296) = false := by simp; omega
  go_enter Tryz.func174, Tryz.ntmps174
  go_wp2
  go_ret
  refine ⟨?_, rfl⟩
  have e2 : lenN (a / 4294967296).toNat ≤ 8 := by
    have : ∀ k : Fin 256, lenN k.val ≤ 8 := by decide +kernel
    exact this ⟨(a / 4294967296).toNat, by omega⟩
  show Ending.returned (.int .i64 _) = _
  rw [tab_at]
  have e3 : wrap64 ((lenN (a / 4294967296).toNat : Nat) : Int) = (lenN (a / 4294967296).toNat : Nat) := by simp only [wrap64]; omega
  have e4 : wrap64 (32 + (lenN (a / 4294967296).toNat : Nat) : Int) = ((32 + lenN (a / 4294967296).toNat : Nat) : Int) := by simp only [wrap64]; omega
  first
    | rw [e3, e4]
    | (rw [e3, e3]; simp only [Nat.zero_add])
    | (rw [e3]; simp only [Nat.zero_add])
set_option maxHeartbeats 1000000 in
theorem len5 (a : Int) (h0 : 0 ≤ a) (h1 : a < 18446744073709551616) (c0 : (4294967296 ≤ a)) (c1 : (a / 4294967296 < 65536)) (c2 : (256 ≤ a / 4294967296)) (w : World) : Calls Tryz.prog 174 #[.int .u64 a] w fun e w' => e = .returned (.int .i64 (40 + lenN (a / 4294967296 / 256).toNat : Nat)) ∧ w' = w := by
  have e0 : 0 ≤ a / 4294967296 / 256 := by omega
  have e1 : a / 4294967296 / 256 < 256 := by omega
  have d32 : decide (4294967296 ≤ a) = true := by simp; omega
  have d16 : decide (65536 ≤ a / 4294967296) = false := by simp; omega
  have d8 : decide (256 ≤ a / 4294967296) = true := by simp; omega
  go_enter Tryz.func174, Tryz.ntmps174
  go_wp2
  go_ret
  refine ⟨?_, rfl⟩
  have e2 : lenN (a / 4294967296 / 256).toNat ≤ 8 := by
    have : ∀ k : Fin 256, lenN k.val ≤ 8 := by decide +kernel
    exact this ⟨(a / 4294967296 / 256).toNat, by omega⟩
  show Ending.returned (.int .i64 _) = _
  rw [tab_at]
  have e3 : wrap64 ((lenN (a / 4294967296 / 256).toNat : Nat) : Int) = (lenN (a / 4294967296 / 256).toNat : Nat) := by simp only [wrap64]; omega
  have e4 : wrap64 (40 + (lenN (a / 4294967296 / 256).toNat : Nat) : Int) = ((40 + lenN (a / 4294967296 / 256).toNat : Nat) : Int) := by simp only [wrap64]; omega
  first
    | rw [e3, e4]
    | (rw [e3, e3]; simp only [Nat.zero_add])
    | (rw [e3]; simp only [Nat.zero_add])
set_option maxHeartbeats 1000000 in
theorem len6 (a : Int) (h0 : 0 ≤ a) (h1 : a < 18446744073709551616) (c0 : (4294967296 ≤ a)) (c1 : (65536 ≤ a / 4294967296)) (c2 : (a / 4294967296 / 65536 < 256)) (w : World) : Calls Tryz.prog 174 #[.int .u64 a] w fun e w' => e = .returned (.int .i64 (48 + lenN (a / 4294967296 / 65536).toNat : Nat)) ∧ w' = w := by
  have e0 : 0 ≤ a / 4294967296 / 65536 := by omega
  have e1 : a / 4294967296 / 65536 < 256 := by omega
  have d32 : decide (4294967296 ≤ a) = true := by simp; omega
  have d16 : decide (65536 ≤ a / 4294967296) = true := by simp; omega
  have d8 : decide (256 ≤ a / 4294967296 / 65536) = false := by simp; omega
  go_enter Tryz.func174, Tryz.ntmps174
  go_wp2
  go_ret
  refine ⟨?_, rfl⟩
  have e2 : lenN (a / 4294967296 / 65536).toNat ≤ 8 := by
    have : ∀ k : Fin 256, lenN k.val ≤ 8 := by decide +kernel
    exact this ⟨(a / 4294967296 / 65536).toNat, by omega⟩
  show Ending.returned (.int .i64 _) = _
  rw [tab_at]
  have e3 : wrap64 ((lenN (a / 4294967296 / 65536).toNat : Nat) : Int) = (lenN (a / 4294967296 / 65536).toNat : Nat) := by simp only [wrap64]; omega
  have e4 : wrap64 (48 + (lenN (a / 4294967296 / 65536).toNat : Nat) : Int) = ((48 + lenN (a / 4294967296 / 65536).toNat : Nat) : Int) := by simp only [wrap64]; omega
  first
    | rw [e3, e4]
    | (rw [e3, e3]; simp only [Nat.zero_add])
    | (rw [e3]; simp only [Nat.zero_add])
set_option maxHeartbeats 1000000 in
theorem len7 (a : Int) (h0 : 0 ≤ a) (h1 : a < 18446744073709551616) (c0 : (4294967296 ≤ a)) (c1 : (65536 ≤ a / 4294967296)) (c2 : (256 ≤ a / 4294967296 / 65536)) (w : World) : Calls Tryz.prog 174 #[.int .u64 a] w fun e w' => e = .returned (.int .i64 (56 + lenN (a / 4294967296 / 65536 / 256).toNat : Nat)) ∧ w' = w := by
  have e0 : 0 ≤ a / 4294967296 / 65536 / 256 := by omega
  have e1 : a / 4294967296 / 65536 / 256 < 256 := by omega
  have d32 : decide (4294967296 ≤ a) = true := by simp; omega
  have d16 : decide (65536 ≤ a / 4294967296) = true := by simp; omega
  have d8 : decide (256 ≤ a / 4294967296 / 65536) = true := by simp; omega
  go_enter Tryz.func174, Tryz.ntmps174
  go_wp2
  go_ret
  refine ⟨?_, rfl⟩
  have e2 : lenN (a / 4294967296 / 65536 / 256).toNat ≤ 8 := by
    have : ∀ k : Fin 256, lenN k.val ≤ 8 := by decide +kernel
    exact this ⟨(a / 4294967296 / 65536 / 256).toNat, by omega⟩
  show Ending.returned (.int .i64 _) = _
  rw [tab_at]
  have e3 : wrap64 ((lenN (a / 4294967296 / 65536 / 256).toNat : Nat) : Int) = (lenN (a / 4294967296 / 65536 / 256).toNat : Nat) := by simp only [wrap64]; omega
  have e4 : wrap64 (56 + (lenN (a / 4294967296 / 65536 / 256).toNat : Nat) : Int) = ((56 + lenN (a / 4294967296 / 65536 / 256).toNat : Nat) : Int) := by simp only [wrap64]; omega
  first
    | rw [e3, e4]
    | (rw [e3, e3]; simp only [Nat.zero_add])
    | (rw [e3]; simp only [Nat.zero_add])
theorem len_any (x : BitVec 64) (w : World) : Calls Tryz.prog 174 #[.int .u64 (iv x)] w fun e w' => e = .returned (.int .i64 (lenN x.toNat : Nat)) ∧ w' = w := by
  have hb := x.isLt
  have go : ∀ (n : Nat) (hn : n < 18446744073709551616), Calls Tryz.prog 174 #[.int .u64 (n : Int)] w fun e w' => e = .returned (.int .i64 (lenN n : Nat)) ∧ w' = w := by
    intro n hn
    have u32 := lenN_up n 32
    have u16 := lenN_up n 16
    have u8 := lenN_up n 8
    have v16 := lenN_up (n / 4294967296) 16
    have v8 := lenN_up (n / 4294967296) 8
    have x8 := lenN_up (n / 4294967296 / 65536) 8
    have y8 := lenN_up (n / 65536) 8
    simp only [show (2 : Nat) ^ 32 = 4294967296 from rfl, show (2 : Nat) ^ 16 = 65536 from rfl, show (2 : Nat) ^ 8 = 256 from rfl] at *
    by_cases c32 : 4294967296 ≤ n
    · by_cases c16 : 65536 ≤ n / 4294967296
      · by_cases c8 : 256 ≤ n / 4294967296 / 65536
        · have r := len7 (n : Int) (by omega) (by omega) (by omega) (by omega) (by omega) w
          have z : ((n : Int) / 4294967296 / 65536 / 256).toNat = n / 4294967296 / 65536 / 256 := by omega
          rw [z] at r
          have q : lenN n = 56 + lenN (n / 4294967296 / 65536 / 256) := by have := u32 c32; have := v16 c16; have := x8 c8; omega
          rw [q]; exact r
        · have r := len6 (n : Int) (by omega) (by omega) (by omega) (by omega) (by omega) w
          have z : ((n : Int) / 4294967296 / 65536).toNat = n / 4294967296 / 65536 := by omega
          rw [z] at r
          have q : lenN n = 48 + lenN (n / 4294967296 / 65536) := by have := u32 c32; have := v16 c16; omega
          rw [q]; exact r
      · by_cases c8 : 256 ≤ n / 4294967296
        · have r := len5 (n : Int) (by omega) (by omega) (by omega) (by omega) (by omega) w
          have z : ((n : Int) / 4294967296 / 256).toNat = n / 4294967296 / 256 := by omega
          rw [z] at r
          have q : lenN n = 40 + lenN (n / 4294967296 / 256) := by have := u32 c32; have := v8 c8; omega
          rw [q]; exact r
        · have r := len4 (n : Int) (by omega) (by omega) (by omega) (by omega) (by omega) w
          have z : ((n : Int) / 4294967296).toNat = n / 4294967296 := by omega
          rw [z] at r
          have q : lenN n = 32 + lenN (n / 4294967296) := by have := u32 c32; omega
          rw [q]; exact r
    · by_cases c16 : 65536 ≤ n
      · by_cases c8 : 256 ≤ n / 65536
        · have r := len3 (n : Int) (by omega) (by omega) (by omega) (by omega) (by omega) w
          have z : ((n : Int) / 65536 / 256).toNat = n / 65536 / 256 := by omega
          rw [z] at r
          have q : lenN n = 24 + lenN (n / 65536 / 256) := by have := u16 c16; have := y8 c8; omega
          rw [q]; exact r
        · have r := len2 (n : Int) (by omega) (by omega) (by omega) (by omega) (by omega) w
          have z : ((n : Int) / 65536).toNat = n / 65536 := by omega
          rw [z] at r
          have q : lenN n = 16 + lenN (n / 65536) := by have := u16 c16; omega
          rw [q]; exact r
      · by_cases c8 : 256 ≤ n
        · have r := len1 (n : Int) (by omega) (by omega) (by omega) (by omega) (by omega) w
          have z : ((n : Int) / 256).toNat = n / 256 := by omega
          rw [z] at r
          have q : lenN n = 8 + lenN (n / 256) := by have := u8 c8; omega
          rw [q]; exact r
        · have r := len0 (n : Int) (by omega) (by omega) (by omega) (by omega) (by omega) w
          have z : ((n : Int)).toNat = n := by omega
          rw [z] at r
          have q : lenN n = 0 + lenN (n) := by omega
          rw [q]; exact r
  exact go x.toNat hb

end Go.Proofs.YtekenpgagfmgkaaGreat.Tn
