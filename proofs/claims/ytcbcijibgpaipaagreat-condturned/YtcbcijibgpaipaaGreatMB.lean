/- Towards the statements of package tnum (layer 3): how many bits a number has: contract of Len64, for every number. Towards the statements of package tnum (layer 3): contracts of In, Meet, Sar of the program, and of the document's bit and put, for every argument. Towards the statements of package tnum (layer 3): a block of memory that holds a set, read and written in a world of which else only little is known: for loops; ranges of the program. Towards the statements of package tnum (layer 3): what the program reckons with whole numbers, bit by bit: which sets may be, which numbers they have. Towards the statements of package tnum (layer 3): the program's Range and Meet in one word each; the examples' calls; regions of open order. -/
import Derived.Test.YtcbcijibgpaipaaGreatMA
import Derived.Lib.Strings
import Derived.Deep.RegionWith
section
namespace Go.Proofs.YtcbcijibgpaipaaGreat.Tn
open Go.ChangeShapes Go.WideShapes Go.ChangeAt Go.RowKit
set_option linter.unusedVariables false
set_option maxRecDepth 20000

def lenN (n : Nat) : Nat := if n = 0 then 0 else Nat.log2 n + 1
theorem tab_at (n : Nat) (h : n < (ByteArray.mk #[0, 1, 2, 2, 3, 3, 3, 3, 4, 4, 4, 4, 4, 4, 4, 4, 5, 5, 5, 5, 5, 5, 5, 5, 5, 5, 5, 5, 5, 5, 5, 5, 6, 6, 6, 6, 6, 6, 6, 6, 6, 6, 6, 6, 6, 6, 6, 6, 6, 6, 6, 6, 6, 6, 6, 6, 6, 6, 6, 6, 6, 6, 6, 6, 7, 7, 7, 7, 7, 7, 7, 7, 7, 7, 7, 7, 7, 7, 7, 7, 7, 7, 7, 7, 7, 7, 7, 7, 7, 7, 7, 7, 7, 7, 7, 7, 7, 7, 7, 7, 7, 7, 7, 7, 7, 7, 7, 7, 7, 7, 7, 7, 7, 7, 7, 7, 7, 7, 7, 7, 7, 7, 7, 7, 7, 7, 7, 7, 8, 8, 8, 8, 8, 8, 8, 8, 8, 8, 8, 8, 8, 8, 8, 8, 8, 8, 8, 8, 8, 8, 8, 8, 8, 8, 8, 8, 8, 8, 8, 8, 8, 8, 8, 8, 8, 8, 8, 8, 8, 8, 8, 8, 8, 8, 8, 8, 8, 8, 8, 8, 8, 8, 8, 8, 8, 8, 8, 8, 8, 8, 8, 8, 8, 8, 8, 8, 8, 8, 8, 8, 8, 8, 8, 8, 8, 8, 8, 8, 8, 8, 8, 8, 8, 8, 8, 8, 8, 8, 8, 8, 8, 8, 8, 8, 8, 8, 8, 8, 8, 8, 8, 8, 8, 8, 8, 8, 8, 8, 8, 8, 8, 8, 8, 8, 8, 8, 8, 8, 8, 8, 8, 8, 8, 8, 8, 8]).size) : (ByteArray.mk #[0, 1, 2, 2, 3, 3, 3, 3, 4, 4, 4, 4, 4, 4, 4, 4, 5, 5, 5, 5, 5, 5, 5, 5, 5, 5, 5, 5, 5, 5, 5, 5, 6, 6, 6, 6, 6, 6, 6, 6, 6, 6, 6, 6, 6, 6, 6, 6, 6, 6, 6, 6, 6, 6, 6, 6, 6, 6, 6, 6, 6, 6, 6, 6, 7, 7, 7, 7, 7, 7, 7, 7, 7, 7, 7, 7, 7, 7, 7, 7, 7, 7, 7, 7, 7, 7, 7, 7, 7, 7, 7, 7, 7, 7, 7, 7, 7, 7, 7, 7, 7, 7, 7, 7, 7, 7, 7, 7, 7, 7, 7, 7, 7, 7, 7, 7, 7, 7, 7, 7, 7, 7, 7, 7, 7, 7, 7, 7, 8, 8, 8, 8, 8, 8, 8, 8, 8, 8, 8, 8, 8, 8, 8, 8, 8, 8, 8, 8, 8, 8, 8, 8, 8, 8, 8, 8, 8, 8, 8, 8, 8, 8, 8, 8, 8, 8, 8, 8, 8, 8, 8, 8, 8, 8, 8, 8, 8, 8, 8, 8, 8, 8, 8, 8, 8, 8, 8, 8, 8, 8, 8, 8, 8, 8, 8, 8, 8, 8, 8, 8, 8, 8, 8, 8, 8, 8, 8, 8, 8, 8, 8, 8, 8, 8, 8, 8, 8, 8, 8, 8, 8, 8, 8, 8, 8, 8, 8, 8, 8, 8, 8, 8, 8, 8, 8, 8, 8, 8, 8, 8, 8, 8, 8, 8, 8, 8, 8, 8, 8, 8, 8, 8, 8, 8, 8, 8])[n].toNat = lenN n := by
  have key : ∀ k : Fin 256, ((ByteArray.mk #[0, 1, 2, 2, 3, 3, 3, 3, 4, 4, 4, 4, 4, 4, 4, 4, 5, 5, 5, 5, 5, 5, 5, 5, 5, 5, 5, 5, 5, 5, 5, 5, 6, 6, 6, 6, 6, 6, 6, 6, 6, 6, 6, 6, 6, 6, 6, 6, 6, 6, 6, 6, 6, 6, 6, 6, 6, 6, 6, 6, 6, 6, 6, 6, 7, 7, 7, 7, 7, 7, 7, 7, 7, 7, 7, 7, 7, 7, 7, 7, 7, 7, 7, 7, 7, 7, 7, 7, 7, 7, 7, 7, 7, 7, 7, 7, 7, 7, 7, 7, 7, 7, 7, 7, 7, 7, 7, 7, 7, 7, 7, 7, 7, 7, 7, 7, 7, 7, 7, 7, 7, 7, 7, 7, 7, 7, 7, 7, 8, 8, 8, 8, 8, 8, 8, 8, 8, 8, 8, 8, 8, 8, 8, 8, 8, 8, 8, 8, 8, 8, 8, 8, 8, 8, 8, 8, 8, 8, 8, 8, 8, 8, 8, 8, 8, 8, 8, 8, 8, 8, 8, 8, 8, 8, 8, 8, 8, 8, 8, 8, 8, 8, 8, 8, 8, 8, 8, 8, 8, 8, 8, 8, 8, 8, 8, 8, 8, 8, 8, 8, 8, 8, 8, 8, 8, 8, 8, 8, 8, 8, 8, 8, 8, 8, 8, 8, 8, 8, 8, 8, 8, 8, 8, 8, 8, 8, 8, 8, 8, 8, 8, 8, 8, 8, 8, 8, 8, 8, 8, 8, 8, 8, 8, 8, 8, 8, 8, 8, 8, 8, 8, 8, 8, 8, 8, 8]).data.getD k.val 0).toNat = lenN k.val := by decide +kernel
  have h' : n < 256 := h
  have e := key ⟨n, h'⟩
  rw [← e]
  congr 1
  simp only [Array.getD]
  rw [dif_pos (show n < (ByteArray.mk #[0, 1, 2, 2, 3, 3, 3, 3, 4, 4, 4, 4, 4, 4, 4, 4, 5, 5, 5, 5, 5, 5, 5, 5, 5, 5, 5, 5, 5, 5, 5, 5, 6, 6, 6, 6, 6, 6, 6, 6, 6, 6, 6, 6, 6, 6, 6, 6, 6, 6, 6, 6, 6, 6, 6, 6, 6, 6, 6, 6, 6, 6, 6, 6, 7, 7, 7, 7, 7, 7, 7, 7, 7, 7, 7, 7, 7, 7, 7, 7, 7, 7, 7, 7, 7, 7, 7, 7, 7, 7, 7, 7, 7, 7, 7, 7, 7, 7, 7, 7, 7, 7, 7, 7, 7, 7, 7, 7, 7, 7, 7, 7, 7, 7, 7, 7, 7, 7, 7, 7, 7, 7, 7, 7, 7, 7, 7, 7, 8, 8, 8, 8, 8, 8, 8, 8, 8, 8, 8, 8, 8, 8, 8, 8, 8, 8, 8, 8, 8, 8, 8, 8, 8, 8, 8, 8, 8, 8, 8, 8, 8, 8, 8, 8, 8, 8, 8, 8, 8, 8, 8, 8, 8, 8, 8, 8, 8, 8, 8, 8, 8, 8, 8, 8, 8, 8, 8, 8, 8, 8, 8, 8, 8, 8, 8, 8, 8, 8, 8, 8, 8, 8, 8, 8, 8, 8, 8, 8, 8, 8, 8, 8, 8, 8, 8, 8, 8, 8, 8, 8, 8, 8, 8, 8, 8, 8, 8, 8, 8, 8, 8, 8, 8, 8, 8, 8, 8, 8, 8, 8, 8, 8, 8, 8, 8, 8, 8, 8, 8, 8, 8, 8, 8, 8, 8, 8]).data.size from h)]
  rfl
theorem lenN_up (n k : Nat) (h : 2 ^ k ≤ n) : lenN n = k + lenN (n / 2 ^ k) := by
  have hp : 0 < 2 ^ k := Nat.two_pow_pos k
  have h1 : n ≠ 0 := by omega
  have h2 : 1 ≤ n / 2 ^ k := (Nat.le_div_iff_mul_le hp).2 (by omega)
  rw [lenN, if_neg h1, lenN, if_neg (by omega)]
  have a1 : 2 ^ (n / 2 ^ k).log2 ≤ n / 2 ^ k := Nat.log2_self_le (by omega)
  have a2 : n / 2 ^ k < 2 ^ ((n / 2 ^ k).log2 + 1) := Nat.lt_log2_self
  have b1 : 2 ^ ((n / 2 ^ k).log2 + k) ≤ n := by
    rw [Nat.pow_add]; exact (Nat.le_div_iff_mul_le hp).1 a1
  have b2 : n < 2 ^ ((n / 2 ^ k).log2 + 1 + k) := by
    rw [Nat.pow_add]; exact (Nat.div_lt_iff_lt_mul hp).1 a2
  have c1 : (n / 2 ^ k).log2 + k ≤ n.log2 := (Nat.le_log2 h1).2 b1
  have c2 : n.log2 < (n / 2 ^ k).log2 + 1 + k := (Nat.log2_lt h1).2 b2
  omega

set_option maxHeartbeats 1000000 in
theorem len0 (a : Int) (h0 : 0 ≤ a) (h1 : a < 18446744073709551616) (c0 : (a < 4294967296)) (c1 : (a < 65536)) (c2 : (a < 256)) (w : World) : Calls Tryz.prog 201 #[.int .u64 a] w fun e w' => e = .returned (.int .i64 (0 + lenN (a).toNat : Nat)) ∧ w' = w := by
  have e0 : 0 ≤ a := by omega
  have e1 : a < 256 := by omega
  have d32 : decide (4294967296 ≤ a) = false := by simp; omega
  have d16 : decide (65536 ≤ a) = false := by simp; omega
  have d8 : decide (256 ≤ a) = false := by simp; omega
  go_enter Tryz.func201, Tryz.ntmps201
  go_wp2
  go_ret
  refine ⟨?_, rfl⟩
  have e2 : lenN (a).toNat ≤ 8 := by
    have : ∀ k : Fin 256, lenN k.val ≤ 8 := by decide +kernel
    exact this ⟨(a).toNat, by omega⟩
  show Ending.returned (.int .i64 _) = _
  rw [tab_at]
  have e3 : wrap64 ((lenN (a).toNat : Nat) : Int) = (lenN (a).toNat : Nat) := by simp only [wrap64]; omega
  have e4 : wrap64 (0 + (lenN (a).toNat : Nat) : Int) = ((0 + lenN (a).toNat : Nat) : Int) := by simp only [wrap64]; omega
  first
    | rw [e3, e4]
    | (rw [e3, e3]; simp only [Nat.zero_add])
    | (rw [e3]; simp only [Nat.zero_add])
set_option maxHeartbeats 1000000 in
theorem len1 (a : Int) (h0 : 0 ≤ a) (h1 : a < 18446744073709551616) (c0 : (a < 4294967296)) (c1 : (a < 65536)) (c2 : (256 ≤ a)) (w : World) : Calls Tryz.prog 201 #[.int .u64 a] w fun e w' => e = .returned (.int .i64 (8 + lenN (a / 256).toNat : Nat)) ∧ w' = w := by
  have e0 : 0 ≤ a / 256 := by omega
  have e1 : a / 256 < 256 := by omega
  have d32 : decide (4294967296 ≤ a) = false := by simp; omega
  have d16 : decide (65536 ≤ a) = false := by simp; omega
  have d8 : decide (256 ≤ a) = true := by simp; omega
  go_enter Tryz.func201, Tryz.ntmps201
  go_wp2
  go_ret
  refine ⟨?_, rfl⟩
  have e2 : lenN (a / 256).toNat ≤ 8 := by
    have : ∀ k : Fin 256, lenN k.val ≤ 8 := by decide +kernel
    exact this ⟨(a / 256).toNat, by omega⟩
  show Ending.returned (.int .i64 _) = _
  rw [tab_at]
  have e3 : wrap64 ((lenN (a / 256).toNat : Nat) : Int) = (lenN (a / 256).toNat : Nat) := by simp only [wrap64]; omega
  have e4 : wrap64 (8 + (lenN (a / 256).toNat : Nat) : Int) = ((8 + lenN (a / 256).toNat : Nat) : Int) := by simp only [wrap64]; omega
  first
    | rw [e3, e4]
    | (rw [e3, e3]; simp only [Nat.zero_add])
    | (rw [e3]; simp only [Nat.zero_add])
set_option maxHeartbeats 1000000 in
theorem len2 (a : Int) (h0 : 0 ≤ a) (h1 : a < 18446744073709551616) (c0 : (a < 4294967296)) (c1 : (65536 ≤ a)) (c2 : (a / 65536 < 256)) (w : World) : Calls Tryz.prog 201 #[.int .u64 a] w fun e w' => e = .returned (.int .i64 (16 + lenN (a / 65536).toNat : Nat)) ∧ w' = w := by
  have e0 : 0 ≤ a / 65536 := by omega
  have e1 : a / 65536 < 256 := by omega
  have d32 : decide (4294967296 ≤ a) = false := by simp; omega
  have d16 : decide (65536 ≤ a) = true := by simp; omega
  have d8 : decide (256 ≤ a / 65536) = false := by simp; omega
  go_enter Tryz.func201, Tryz.ntmps201
  go_wp2
  go_ret
  refine ⟨?_, rfl⟩
  have e2 : lenN (a / 65536).toNat ≤ 8 := by
    have : ∀ k : Fin 256, lenN k.val ≤ 8 := by decide +kernel
    exact this ⟨(a / 65536).toNat, by omega⟩
  show Ending.returned (.int .i64 _) = _
  rw [tab_at]
  have e3 : wrap64 ((lenN (a / 65536).toNat : Nat) : Int) = (lenN (a / 65536).toNat : Nat) := by simp only [wrap64]; omega
  have e4 : wrap64 (16 + (lenN (a / 65536).toNat : Nat) : Int) = ((16 + lenN (a / 65536).toNat : Nat) : Int) := by simp only [wrap64]; omega
  first
    | rw [e3, e4]
    | (rw [e3, e3]; simp only [Nat.zero_add])
    | (rw [e3]; simp only [Nat.zero_add])
set_option maxHeartbeats 1000000 in
theorem len3 (a : Int) (h0 : 0 ≤ a) (h1 : a < 18446744073709551616) (c0 : (a < 4294967296)) (c1 : (65536 ≤ a)) (c2 : (256 ≤ a / 65536)) (w : World) : Calls Tryz.prog 201 #[.int .u64 a] w fun e w' => e = .returned (.int .i64 (24 + lenN (a / 65536 / 256).toNat : Nat)) ∧ w' = w := by
  have e0 : 0 ≤ a / 65536 / 256 := by omega
  have e1 : a / 65536 / 256 < 256 := by omega
  have d32 : decide (4294967296 ≤ a) = false := by simp; omega
  have d16 : decide (65536 ≤ a) = true := by simp; omega
  have d8 : decide (256 ≤ a / 65536) = true := by simp; omega
  go_enter Tryz.func201, Tryz.ntmps201
  go_wp2
  go_ret
  refine ⟨?_, rfl⟩
  have e2 : lenN (a / 65536 / 256).toNat ≤ 8 := by
    have : ∀ k : Fin 256, lenN k.val ≤ 8 := by decide +kernel
    exact this ⟨(a / 65536 / 256).toNat, by omega⟩
  show Ending.returned (.int .i64 _) = _
  rw [tab_at]
  have e3 : wrap64 ((lenN (a / 65536 / 256).toNat : Nat) : Int) = (lenN (a / 65536 / 256).toNat : Nat) := by simp only [wrap64]; omega
  have e4 : wrap64 (24 + (lenN (a / 65536 / 256).toNat : Nat) : Int) = ((24 + lenN (a / 65536 / 256).toNat : Nat) : Int) := by simp only [wrap64]; omega
  first
    | rw [e3, e4]
    | (rw [e3, e3]; simp only [Nat.zero_add])
    | (rw [e3]; simp only [Nat.zero_add])
set_option maxHeartbeats 1000000 in
theorem len4 (a : Int) (h0 : 0 ≤ a) (h1 : a < 18446744073709551616) (c0 : (4294967296 ≤ a)) (c1 : (a / 4294967296 < 65536)) (c2 : (a / 4294967296 < 256)) (w : World) : Calls Tryz.prog 201 #[.int .u64 a] w fun e w' => e = .returned (.int .i64 (32 + lenN (a / 4294967296).toNat : Nat)) ∧ w' = w := by
  have e0 : 0 ≤ a / 4294967296 := by omega
  have e1 : a / 4294967296 < 256 := by omega
  have d32 : decide (4294967296 ≤ a) = true := by simp; omega
  have d16 : decide (65536 ≤ a / 4294967296) = false := by simp; omega
  have d8 : decide (256 ≤ a / 4294967296) = false := by simp; omega
  go_enter Tryz.func201, Tryz.ntmps201
  go_wp2
  go_ret
  refine ⟨?_, rfl⟩
  have e2 : lenN (a / 4294967296).toNat ≤ 8 := by
    have : ∀ k : Fin 256, lenN k.val ≤ 8 := by decide +kernel
    exact this ⟨(a / 4294967296).toNat, by omega⟩
  show Ending.returned (.int .i64 _) = _
  rw [tab_at]
  have e3 : wrap64 ((lenN (a / 4294967296).toNat : Nat) : Int) = (lenN (a / 4294967296).toNat : Nat) := by simp only [wrap64]; omega
  have e4 : wrap64 (32 + (lenN (a / 4294967296).toNat : Nat) : Int) = ((32 + lenN (a / 4294967296).toNat : Nat) : Int) := by simp only [wrap64]; omega
  first
    | rw [e3, e4]
    | (rw [e3, e3]; simp only [Nat.zero_add])
    | (rw [e3]; simp only [Nat.zero_add])
set_option maxHeartbeats 1000000 in
theorem len5 (a : Int) (h0 : 0 ≤ a) (h1 : a < 18446744073709551616) (c0 : (4294967296 ≤ a)) (c1 : (a / 4294967296 < 65536)) (c2 : (256 ≤ a / 4294967296)) (w : World) : Calls Tryz.prog 201 #[.int .u64 a] w fun e w' => e = .returned (.int .i64 (40 + lenN (a / 4294967296 / 256).toNat : Nat)) ∧ w' = w := by
  have e0 : 0 ≤ a / 4294967296 / 256 := by omega
  have e1 : a / 4294967296 / 256 < 256 := by omega
  have d32 : decide (4294967296 ≤ a) = true := by simp; omega
  have d16 : decide (65536 ≤ a / 4294967296) = false := by simp; omega
  have d8 : decide (256 ≤ a / 4294967296) = true := by simp; omega
  go_enter Tryz.func201, Tryz.ntmps201
  go_wp2
  go_ret
  refine ⟨?_, rfl⟩
  have e2 : lenN (a / 4294967296 / 256).toNat ≤ 8 := by
    have : ∀ k : Fin 256, lenN k.val ≤ 8 := by decide +kernel
    exact this ⟨(a / 4294967296 / 256).toNat, by omega⟩
  show Ending.returned (.int .i64 _) = _
  rw [tab_at]
  have e3 : wrap64 ((lenN (a / 4294967296 / 256).toNat : Nat) : Int) = (lenN (a / 4294967296 / 256).toNat : Nat) := by simp only [wrap64]; omega
  have e4 : wrap64 (40 + (lenN (a / 4294967296 / 256).toNat : Nat) : Int) = ((40 + lenN (a / 4294967296 / 256).toNat : Nat) : Int) := by simp only [wrap64]; omega
  first
    | rw [e3, e4]
    | (rw [e3, e3]; simp only [Nat.zero_add])
    | (rw [e3]; simp only [Nat.zero_add])
set_option maxHeartbeats 1000000 in
theorem len6 (a : Int) (h0 : 0 ≤ a) (h1 : a < 18446744073709551616) (c0 : (4294967296 ≤ a)) (c1 : (65536 ≤ a / 4294967296)) (c2 : (a / 4294967296 / 65536 < 256)) (w : World) : Calls Tryz.prog 201 #[.int .u64 a] w fun e w' => e = .returned (.int .i64 (48 + lenN (a / 4294967296 / 65536).toNat : Nat)) ∧ w' = w := by
  have e0 : 0 ≤ a / 4294967296 / 65536 := by omega
  have e1 : a / 4294967296 / 65536 < 256 := by omega
  have d32 : decide (4294967296 ≤ a) = true := by simp; omega
  have d16 : decide (65536 ≤ a / 4294967296) = true := by simp; omega
  have d8 : decide (256 ≤ a / 4294967296 / 65536) = false := by simp; omega
  go_enter Tryz.func201, Tryz.ntmps201
  go_wp2
  go_ret
  refine ⟨?_, rfl⟩
  have e2 : lenN (a / 4294967296 / 65536).toNat ≤ 8 := by
    have : ∀ k : Fin 256, lenN k.val ≤ 8 := by decide +kernel
    exact this ⟨(a / 4294967296 / 65536).toNat, by omega⟩
  show Ending.returned (.int .i64 _) = _
  rw [tab_at]
  have e3 : wrap64 ((lenN (a / 4294967296 / 65536).toNat : Nat) : Int) = (lenN (a / 4294967296 / 65536).toNat : Nat) := by simp only [wrap64]; omega
  have e4 : wrap64 (48 + (lenN (a / 4294967296 / 65536).toNat : Nat) : Int) = ((48 + lenN (a / 4294967296 / 65536).toNat : Nat) : Int) := by simp only [wrap64]; omega
  first
    | rw [e3, e4]
    | (rw [e3, e3]; simp only [Nat.zero_add])
    | (rw [e3]; simp only [Nat.zero_add])
set_option maxHeartbeats 1000000 in
theorem len7 (a : Int) (h0 : 0 ≤ a) (h1 : a < 18446744073709551616) (c0 : (4294967296 ≤ a)) (c1 : (65536 ≤ a / 4294967296)) (c2 : (256 ≤ a / 4294967296 / 65536)) (w : World) : Calls Tryz.prog 201 #[.int .u64 a] w fun e w' => e = .returned (.int .i64 (56 + lenN (a / 4294967296 / 65536 / 256).toNat : Nat)) ∧ w' = w := by
  have e0 : 0 ≤ a / 4294967296 / 65536 / 256 := by omega
  have e1 : a / 4294967296 / 65536 / 256 < 256 := by omega
  have d32 : decide (4294967296 ≤ a) = true := by simp; omega
  have d16 : decide (65536 ≤ a / 4294967296) = true := by simp; omega
  have d8 : decide (256 ≤ a / 4294967296 / 65536) = true := by simp; omega
  go_enter Tryz.func201, Tryz.ntmps201
  go_wp2
  go_ret
  refine ⟨?_, rfl⟩
  have e2 : lenN (a / 4294967296 / 65536 / 256).toNat ≤ 8 := by
    have : ∀ k : Fin 256, lenN k.val ≤ 8 := by decide +kernel
    exact this ⟨(a / 4294967296 / 65536 / 256).toNat, by omega⟩
  show Ending.returned (.int .i64 _) = _
  rw [tab_at]
  have e3 : wrap64 ((lenN (a / 4294967296 / 65536 / 256).toNat : Nat) : Int) = (lenN (a / 4294967296 / 65536 / 256).toNat : Nat) := by simp only [wrap64]; omega
  have e4 : wrap64 (56 + (lenN (a / 4294967296 / 65536 / 256).toNat : Nat) : Int) = ((56 + lenN (a / 4294967296 / 65536 / 256).toNat : Nat) : Int) := by simp only [wrap64]; omega
  first
    | rw [e3, e4]
    | (rw [e3, e3]; simp only [Nat.zero_add])
    | (rw [e3]; simp only [Nat.zero_add])
theorem len_any (x : BitVec 64) (w : World) : Calls Tryz.prog 201 #[.int .u64 (iv x)] w fun e w' => e = .returned (.int .i64 (lenN x.toNat : Nat)) ∧ w' = w := by
  have hb := x.isLt
  have go : ∀ (n : Nat) (hn : n < 18446744073709551616), Calls Tryz.prog 201 #[.int .u64 (n : Int)] w fun e w' => e = .returned (.int .i64 (lenN n : Nat)) ∧ w' = w := by
    intro n hn
    have u32 := lenN_up n 32
    have u16 := lenN_up n 16
    have u8 := lenN_up n 8
    have v16 := lenN_up (n / 4294967296) 16
    have v8 := lenN_up (n / 4294967296) 8
    have x8 := lenN_up (n / 4294967296 / 65536) 8
    have y8 := lenN_up (n / 65536) 8
    simp only [show (2 : Nat) ^ 32 = 4294967296 from rfl, show (2 : Nat) ^ 16 = 65536 from rfl, show (2 : Nat) ^ 8 = 256 from rfl] at *
    by_cases c32 : 4294967296 ≤ n
    · by_cases c16 : 65536 ≤ n / 4294967296
      · by_cases c8 : 256 ≤ n / 4294967296 / 65536
        · have r := len7 (n : Int) (by omega) (by omega) (by omega) (by omega) (by omega) w
          have z : ((n : Int) / 4294967296 / 65536 / 256).toNat = n / 4294967296 / 65536 / 256 := by omega
          rw [z] at r
          have q : lenN n = 56 + lenN (n / 4294967296 / 65536 / 256) := by have := u32 c32; have := v16 c16; have := x8 c8; omega
          rw [q]; exact r
        · have r := len6 (n : Int) (by omega) (by omega) (by omega) (by omega) (by omega) w
          have z : ((n : Int) / 4294967296 / 65536).toNat = n / 4294967296 / 65536 := by omega
          rw [z] at r
          have q : lenN n = 48 + lenN (n / 4294967296 / 65536) := by have := u32 c32; have := v16 c16; omega
          rw [q]; exact r
      · by_cases c8 : 256 ≤ n / 4294967296
        · have r := len5 (n : Int) (by omega) (by omega) (by omega) (by omega) (by omega) w
          have z : ((n : Int) / 4294967296 / 256).toNat = n / 4294967296 / 256 := by omega
          rw [z] at r
          have q : lenN n = 40 + lenN (n / 4294967296 / 256) := by have := u32 c32; have := v8 c8; omega
          rw [q]; exact r
        · have r := len4 (n : Int) (by omega) (by omega) (by omega) (by omega) (by omega) w
          have z : ((n : Int) / 4294967296).toNat = n / 4294967296 := by omega
          rw [z] at r
          have q : lenN n = 32 + lenN (n / 4294967296) := by have := u32 c32; omega
          rw [q]; exact r
    · by_cases c16 : 65536 ≤ n
      · by_cases c8 : 256 ≤ n / 65536
        · have r := len3 (n : Int) (by omega) (by omega) (by omega) (by omega) (by omega) w
          have z : ((n : Int) / 65536 / 256).toNat = n / 65536 / 256 := by omega
          rw [z] at r
          have q : lenN n = 24 + lenN (n / 65536 / 256) := by have := u16 c16; have := y8 c8; omega
          rw [q]; exact r
        · have r := len2 (n : Int) (by omega) (by omega) (by omega) (by omega) (by omega) w
          have z : ((n : Int) / 65536).toNat = n / 65536 := by omega
          rw [z] at r
          have q : lenN n = 16 + lenN (n / 65536) := by have := u16 c16; omega
          rw [q]; exact r
      · by_cases c8 : 256 ≤ n
        · have r := len1 (n : Int) (by omega) (by omega) (by omega) (by omega) (by omega) w
          have z : ((n : Int) / 256).toNat = n / 256 := by omega
          rw [z] at r
          have q : lenN n = 8 + lenN (n / 256) := by have := u8 c8; omega
          rw [q]; exact r
        · have r := len0 (n : Int) (by omega) (by omega) (by omega) (by omega) (by omega) w
          have z : ((n : Int)).toNat = n := by omega
          rw [z] at r
          have q : lenN n = 0 + lenN (n) := by omega
          rw [q]; exact r
  exact go x.toNat hb

end Go.Proofs.YtcbcijibgpaipaaGreat.Tn
end
section
namespace Go.Proofs.YtcbcijibgpaipaaGreat.Tn
open Go.ChangeShapes Go.WideShapes Go.ChangeAt Go.RowKit
set_option linter.unusedVariables false
set_option maxRecDepth 20000

theorem in_any (av am bv bm : BitVec 64) (w : World) : Calls Tryz.prog 64 #[.agg #[.int .u64 (iv av), .int .u64 (iv am)], .agg #[.int .u64 (iv bv), .int .u64 (iv bm)]] w fun e w' => e = .returned (.bool (am &&& ~~~bm == 0#64 && av &&& ~~~bm == bv)) ∧ Gr w w' := by
  have r0 := @iv_andNot
  have r1 := @iv_eq0
  cases hd : (am &&& ~~~bm == 0#64)
  · go_enter Tryz.func64, Tryz.ntmps64
    go_wp2_with (first
      | (go_at_call 61; refine (has_any _ _ _ _).mono ?_; rintro e w' ⟨rfl, rfl⟩))
    go_ret
    exact ⟨rfl, by go_grown, by go_grown⟩
  · go_enter Tryz.func64, Tryz.ntmps64
    go_wp2_with (first
      | (go_at_call 61; refine (has_any _ _ _ _).mono ?_; rintro e w' ⟨rfl, rfl⟩))
    go_ret
    exact ⟨rfl, by go_grown, by go_grown⟩
def meetX (av am bv bm : BitVec 64) : Bool := (av ^^^ bv) &&& ~~~(am ||| bm) == 0#64
theorem meet_yes (av am bv bm : BitVec 64) (h : meetX av am bv bm = true) (w : World) : Calls Tryz.prog 66 #[.agg #[.int .u64 (iv av), .int .u64 (iv am)], .agg #[.int .u64 (iv bv), .int .u64 (iv bm)]] w fun e w' => e = .returned (.tuple #[.agg #[.int .u64 (iv ((av ||| bv) &&& ~~~(am &&& bm))), .int .u64 (iv (am &&& bm))], .bool true]) ∧ Gr w w' := by
  have r0 := @iv_andNot
  have r1 := @iv_and
  have r2 := @iv_or
  have r3 := @iv_xor
  have r4 := @iv_ne0
  have hd : ((av ^^^ bv) &&& ~~~(am ||| bm) != 0#64) = false := by rw [bne, show ((av ^^^ bv) &&& ~~~(am ||| bm) == 0#64) = true from h]; rfl
  clear h
  go_enter Tryz.func66, Tryz.ntmps66
  go_wp2_with (first
    | (go_at_call 131; refine (known_any _ _ _).mono ?_; rintro e w' ⟨rfl, rfl⟩))
  go_returns
  exact ⟨rfl, by go_grown, by go_grown⟩
theorem meet_no (av am bv bm : BitVec 64) (h : meetX av am bv bm = false) (w : World) : Calls Tryz.prog 66 #[.agg #[.int .u64 (iv av), .int .u64 (iv am)], .agg #[.int .u64 (iv bv), .int .u64 (iv bm)]] w fun e w' => e = .returned (.tuple #[.agg #[.int .u64 (iv 0#64), .int .u64 (iv 0#64)], .bool false]) ∧ Gr w w' := by
  have r0 := @iv_andNot
  have r2 := @iv_or
  have r3 := @iv_xor
  have r4 := @iv_ne0
  have hd : ((av ^^^ bv) &&& ~~~(am ||| bm) != 0#64) = true := by rw [bne, show ((av ^^^ bv) &&& ~~~(am ||| bm) == 0#64) = false from h]; rfl
  clear h
  go_enter Tryz.func66, Tryz.ntmps66
  go_wp2
  go_returns
  exact ⟨rfl, by go_grown, by go_grown⟩
end Go.Proofs.YtcbcijibgpaipaaGreat.Tn
end
section
namespace Go.Proofs.YtcbcijibgpaipaaGreat.Tn
open Go.ChangeShapes Go.WideShapes Go.ChangeAt Go.RowKit
set_option linter.unusedVariables false
set_option maxRecDepth 20000

/-- Block b holds the set with value v and mask m. -/
def At (w : World) (b : Nat) (v m : BitVec 64) : Prop := w.heap[b]? = some (.cells #[.int .u64 (iv v), .int .u64 (iv m)] 24)
section
variable {w w' : World} {b : Nat} {v m : BitVec 64}
theorem At.c0 (h : At w b v m) : w.cell? ⟨b, 0, none⟩ = some (.int .u64 (iv v)) := by simp [World.cell?, show w.heap[b]? = _ from h]
theorem At.c1 (h : At w b v m) : w.cell? ⟨b, 1, none⟩ = some (.int .u64 (iv m)) := by simp [World.cell?, show w.heap[b]? = _ from h]
theorem At.f0 (h : At w b v m) (o : Nat) : w.frozen? ⟨b, o, none⟩ = false := by simp [World.frozen?, show w.heap[b]? = _ from h]
theorem At.lt (h : At w b v m) : b < w.heap.size := (Array.getElem?_eq_some_iff.1 h).1
theorem At.gr (h : At w b v m) (g : Gr w w') : At w' b v m := (g.below.block b h.lt).trans h
theorem At.alloc (h : At w b v m) (o : Obj) : At (w.alloc o) b v m := (Below.heap_alloc w o b h.lt).trans h
theorem At.drew (h : At w b v m) : At w.drew b v m := h
theorem At.new (w : World) (v m : BitVec 64) : At (w.alloc (.cells #[.int .u64 (iv v), .int .u64 (iv m)] 24)) w.heap.size v m := by
  show (w.heap.push _)[w.heap.size]? = _
  simp
theorem At.newb (w : World) {b : Nat} (hb : b = w.heap.size) (v m : BitVec 64) : At (w.alloc (.cells #[.int .u64 (iv v), .int .u64 (iv m)] 24)) b v m := by
  subst hb
  exact At.new w v m
theorem At.other (h : At w b v m) {b' o : Nat} (hb : b ≠ b') (u : Value) : At (w.setCell ⟨b', o, none⟩ u) b v m := (Below.heap_setCell w ⟨b', o, none⟩ u b hb).trans h
theorem At.set (h : At w b v m) (v' m' : BitVec 64) : At ((w.setCell ⟨b, 0, none⟩ (.int .u64 (iv v'))).setCell ⟨b, 1, none⟩ (.int .u64 (iv m'))) b v' m' := by
  obtain ⟨hlt, hk⟩ := Array.getElem?_eq_some_iff.1 h
  have e1 : (w.setCell ⟨b, 0, none⟩ (.int .u64 (iv v'))).heap[b]? = some (.cells #[.int .u64 (iv v'), .int .u64 (iv m)] 24) := by
    show (w.heap.modify b _)[b]? = _
    rw [Array.getElem?_eq_getElem (by rw [Array.size_modify]; exact hlt), Array.getElem_modify_self, hk]
    rfl
  obtain ⟨hlt', hk'⟩ := Array.getElem?_eq_some_iff.1 e1
  show ((w.setCell ⟨b, 0, none⟩ (.int .u64 (iv v'))).heap.modify b _)[b]? = _
  rw [Array.getElem?_eq_getElem (by rw [Array.size_modify]; exact hlt'), Array.getElem_modify_self, hk']
  rfl
end
theorem frozen_set (w : World) (a p : Addr) (u : Value) : (w.setCell a u).frozen? p = w.frozen? p := by
  by_cases h : p.block = a.block
  · simp only [World.frozen?, World.setCell, Array.getElem?_modify]
    rw [if_pos h.symm]
    cases w.heap[p.block]? with
    | none => rfl
    | some o => cases o <;> rfl
  · exact World.frozen?_of_block (Below.heap_setCell w a u p.block h)
theorem Gr.set {w W : World} (h : Gr w W) {b o : Nat} (ha : w.heap.size ≤ b) (u : Value) : Gr w (W.setCell ⟨b, o, none⟩ u) :=
  have hb : Below w.heap.size w (W.setCell ⟨b, o, none⟩ u) := h.below.setCell ha u
  ⟨hb, hb.frame _, fun p => (frozen_set W _ p u).trans (h.grown.2.1 p), hb.size⟩
theorem Gr.alloc {w W : World} (h : Gr w W) (c : Array Value) (t : TypeId) : Gr w (W.alloc (.cells c t)) :=
  h.trans ⟨by go_grown, by go_grown⟩
theorem Gr.drew {w W : World} (h : Gr w W) : Gr w W.drew := h.trans ⟨by go_grown, by go_grown⟩

theorem len_le (x : BitVec 64) : lenN x.toNat ≤ 64 := by
  unfold lenN
  split
  · omega
  · rename_i h
    have := (Nat.log2_lt h).2 x.isLt
    omega
theorem range_all (lo hi : BitVec 64) (h : decide (hi < lo) = true) (w : World) : Calls Tryz.prog 104 #[.int .u64 (iv lo), .int .u64 (iv hi)] w fun e w' => e = .returned (.agg #[.int .u64 (iv 0#64), .int .u64 (iv (1#64 <<< 64 - 1#64))]) ∧ Gr w w' := by
  have r0 := @iv_lt
  go_enter Tryz.func104, Tryz.ntmps104
  go_wp2_with (first
    | (go_at_call 168; refine (lowest_any 64 _).mono ?_; rintro e w' ⟨rfl, rfl⟩))
  go_returns
  exact ⟨rfl, by go_grown, by go_grown⟩
def rangeM (lo hi : BitVec 64) : BitVec 64 := 1#64 <<< lenN (lo ^^^ hi).toNat - 1#64
theorem range_in (lo hi : BitVec 64) (h : decide (hi < lo) = false) (w : World) : Calls Tryz.prog 104 #[.int .u64 (iv lo), .int .u64 (iv hi)] w fun e w' => e = .returned (.agg #[.int .u64 (iv (lo &&& ~~~(rangeM lo hi))), .int .u64 (iv (rangeM lo hi))]) ∧ Gr w w' := by
  have r0 := @iv_lt
  have r1 := @iv_xor
  have r2 := len_le (lo ^^^ hi)
  have hl := len_any (lo ^^^ hi)
  unfold rangeM
  generalize lenN (lo ^^^ hi).toNat = n at *
  have hl' : Hid _ := hl
  clear hl
  go_enter Tryz.func104, Tryz.ntmps104
  go_wp2_with (first
    | (go_at_call 201; refine (hl'.out _).mono ?_; rintro e w' ⟨rfl, rfl⟩)
    | (go_at_call 168; refine (lowest_any _ _).mono ?_; rintro e w' ⟨rfl, rfl⟩)
    | (go_at_call 131; refine (known_any _ _ _).mono ?_; rintro e w' ⟨rfl, rfl⟩))
  go_returns
  exact ⟨rfl, by go_grown, by go_grown⟩
end Go.Proofs.YtcbcijibgpaipaaGreat.Tn
end
section
namespace Go.Proofs.YtcbcijibgpaipaaGreat.Tn
set_option linter.unusedVariables false

theorem low_bit (n i : Nat) (hi : i < 64) : (1#64 <<< n - 1#64).getLsbD i = decide (i < n) := by
  by_cases h : n < 64
  · have e : (1#64 <<< n - 1#64).toNat = 2 ^ n - 1 := by
      have hp : 2 ^ n < 2 ^ 64 := Nat.pow_lt_pow_right (by omega) h
      have hq : 0 < 2 ^ n := Nat.two_pow_pos n
      rw [BitVec.toNat_sub, BitVec.toNat_shiftLeft, BitVec.toNat_ofNat, Nat.shiftLeft_eq]
      have h1 : 1 % 2 ^ 64 = 1 := by decide
      rw [h1, Nat.one_mul, Nat.mod_eq_of_lt hp]
      omega
    rw [BitVec.getLsbD, e, Nat.testBit_two_pow_sub_one]
  · rw [BitVec.shiftLeft_eq_zero (by omega), show 0#64 - 1#64 = BitVec.allOnes 64 from by decide, BitVec.getLsbD_allOnes]
    rw [decide_eq_true hi, decide_eq_true (by omega)]

section
variable {v m av am bv bm x : BitVec 64}
theorem has_iff (o : Tn.Ok v m) : (x &&& ~~~m == v) = true ↔ Tn.Has v m x := by
  rw [beq_iff_eq]
  constructor
  · intro h i hi hm
    have : (x &&& ~~~m).getLsbD i = v.getLsbD i := by rw [h]
    rw [BitVec.getLsbD_and, BitVec.getLsbD_not, hm] at this
    simp [hi] at this
    exact this
  · intro h
    apply BitVec.eq_of_getLsbD_eq
    intro i hi
    rw [BitVec.getLsbD_and, BitVec.getLsbD_not]
    cases hm : m.getLsbD i
    · rw [h i hi hm]; simp [hi]
    · rw [o i hi hm]; simp
end
section
variable {v m av am bv bm x : BitVec 64}
theorem low_ok (o : Tn.Ok v m) (c : BitVec 64) : Tn.Ok (v &&& c) (m &&& c) := fun i hi h => by
  rw [BitVec.getLsbD_and] at h ⊢
  simp only [Bool.and_eq_true] at h
  rw [o i hi h.1]; simp
end
theorem lenN_le (n i : Nat) : lenN n ≤ i ↔ n < 2 ^ i := by
  unfold lenN
  by_cases h : n = 0
  · subst h; simp; exact Nat.two_pow_pos i
  · rw [if_neg h, ← Nat.log2_lt h]; omega
end Go.Proofs.YtcbcijibgpaipaaGreat.Tn
end
section
namespace Go.Proofs.YtcbcijibgpaipaaGreat.Tn
open Go.ChangeShapes Go.WideShapes Go.ChangeAt Go.RowKit
set_option linter.unusedVariables false
set_option maxRecDepth 20000

theorem by_of {W w' : World} {p : GrBy W} (h : Gr p.to w') : ∃ q : GrBy W, w' = q.to := ⟨⟨w', p.gr.trans h⟩, rfl⟩

def rgV (lo hi : BitVec 64) : BitVec 64 := if hi < lo then 0#64 else lo &&& ~~~(rangeM lo hi)
def rgM (lo hi : BitVec 64) : BitVec 64 := if hi < lo then 1#64 <<< 64 - 1#64 else rangeM lo hi
def mtV (av am bv bm : BitVec 64) : BitVec 64 := if meetX av am bv bm then (av ||| bv) &&& ~~~(am &&& bm) else 0#64
def mtM (av am bv bm : BitVec 64) : BitVec 64 := if meetX av am bv bm then am &&& bm else 0#64
theorem range_any (lo hi : BitVec 64) (w : World) : Calls Tryz.prog 104 #[.int .u64 (iv lo), .int .u64 (iv hi)] w fun e w' => e = .returned (.agg #[.int .u64 (iv (rgV lo hi)), .int .u64 (iv (rgM lo hi))]) ∧ Gr w w' := by
  by_cases h : hi < lo
  · have := range_all lo hi (decide_eq_true h) w
    rw [rgV, rgM, if_pos h, if_pos h]; exact this
  · have := range_in lo hi (decide_eq_false h) w
    rw [rgV, rgM, if_neg h, if_neg h]; exact this
theorem meet_any (av am bv bm : BitVec 64) (w : World) : Calls Tryz.prog 66 #[.agg #[.int .u64 (iv av), .int .u64 (iv am)], .agg #[.int .u64 (iv bv), .int .u64 (iv bm)]] w fun e w' => e = .returned (.tuple #[.agg #[.int .u64 (iv (mtV av am bv bm)), .int .u64 (iv (mtM av am bv bm))], .bool (meetX av am bv bm)]) ∧ Gr w w' := by
  cases h : meetX av am bv bm
  · have := meet_no av am bv bm h w
    rw [mtV, mtM, h, if_neg (by decide), if_neg (by decide)]; exact this
  · have := meet_yes av am bv bm h w
    rw [mtV, mtM, h, if_pos rfl, if_pos rfl]; exact this
theorem cst_gr (v : BitVec 64) (w : World) : Calls Tryz.prog 54 #[.int .u64 (iv v)] w fun e w' => e = .returned (.agg #[.int .u64 (iv v), .int .u64 (iv 0#64)]) ∧ Gr w w' :=
  (const_any v w).mono fun e w' ⟨he, hw⟩ => ⟨he, hw ▸ (Gr.refl w).alloc _ _⟩
theorem may_gr (v m : BitVec 64) (w : World) : Calls Tryz.prog 42 #[.agg #[.int .u64 (iv v), .int .u64 (iv m)]] w fun e w' => e = .returned (.bool (v &&& m == 0#64)) ∧ Gr w w' :=
  (may_any v m w).mono fun e w' ⟨he, hw⟩ => ⟨he, hw ▸ (Gr.refl w).alloc _ _⟩
theorem has_gr (v m x : BitVec 64) (w : World) : Calls Tryz.prog 61 #[.agg #[.int .u64 (iv v), .int .u64 (iv m)], .int .u64 (iv x)] w fun e w' => e = .returned (.bool (x &&& ~~~m == v)) ∧ Gr w w' :=
  (has_any v m x w).mono fun e w' ⟨he, hw⟩ => ⟨he, hw ▸ (Gr.refl w).alloc _ _⟩
end Go.Proofs.YtcbcijibgpaipaaGreat.Tn
end
