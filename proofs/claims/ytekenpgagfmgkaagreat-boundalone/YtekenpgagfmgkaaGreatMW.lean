/- Towards the statements of package word (layer 1), of what of it this program has: what counts as a size, and why there is no number of that size at that place: contracts of isSize, May and fits, for every argument. Towards the statements of package word (layer 1), of what of it this program has: eight bytes as one number, one number as eight bytes: contracts of number and bytesOf, for every argument. Towards the statements of package word (layer 1), of what of it this program has: the lowest bytes of a number: contracts of Of, the program's and the document's, for every number and every size. Towards the statements of package word (layer 1), of what of it this program has: the number that stands in a text: contract of Get, for every text, place and size. Towards the statements of package word (layer 1), of what of it this program has: the document's Get, and Low and Sign of the program, for every argument. Towards the statements of package word (layer 1), of what of it this program has: a text in which a number is set: contracts of Set, the program's and the document's, for every argument. Towards the statements of package word (layer 1), of what of it this program has: the document's Low and Sign, for every argument. Towards the statements of package alu (layer 2): the tables of closures that deeds and questions make, what they have at each code; contracts of sizeOf, deeds and questions, for both sizes. Towards the statements of package alu (layer 2): what each closure of the table deeds reckons, for every two numbers; contracts of the thirteen. Towards the statements of package alu (layer 2): what each closure of the table questions answers, for every two numbers; contracts of the twelve, of above and of sign. Towards the statements of package alu (layer 2): contracts of Does and Asks of the program, for every code and every two numbers. -/
import Derived.Test.YtekenpgagfmgkaaGreatRows
import Derived.WalkKit
import Derived.WalkSpells
import Derived.ProofKit
import Derived.OpenShut
import Derived.ShutString
import Derived.BigQuiet
import Derived.Deep.QuietTactic
import Derived.Handy
import Derived.PlainAid
import Derived.Laws.BitsAllLaws
import Derived.Laws.BytesArg
import Derived.Lib.BufferWrite
import Derived.Deep.WholeRow
import Derived.Deep.RegionWith
import Derived.Carry
import Derived.MapKept
import Derived.Laws.EntriesVeiled
import Derived.Laws.ShiftsVarLaws
import Derived.Laws.ShiftsVar
section
namespace Go.Proofs.YtekenpgagfmgkaaGreat.Wd
open Go.ChangeShapes Go.WideShapes Go.ChangeAt Go.RowKit
set_option linter.unusedVariables false

def isz (n : Int) : Bool := n == 1 || n == 2 || n == 4 || n == 8

theorem isz_false {n : Int} (h : isz n = false) : ((n == 1) = false ∧ (n == 2) = false) ∧ ((n == 4) = false ∧ (n == 8) = false) := by
  simp only [isz, Bool.or_eq_false_iff] at h
  exact ⟨h.1.1, h.1.2, h.2⟩
theorem isz_true {n : Int} (h : isz n = true) : n = 1 ∨ n = 2 ∨ n = 4 ∨ n = 8 := by
  simp only [isz, Bool.or_eq_true, beq_iff_eq] at h
  omega

set_option maxHeartbeats 400000 in
theorem size_yes (n : Int) (h : isz n = true) (w : World) : Calls Tryz.prog 168 #[.int .i64 n] w fun e w' => e = .returned (.bool true) ∧ w' = w := by
  rcases isz_true h with rfl | rfl | rfl | rfl
  all_goals
    clear h
    go_enter Tryz.func168, Tryz.ntmps168
    go_wp2
    go_ret
    exact ⟨rfl, rfl⟩
set_option maxHeartbeats 400000 in
theorem size_no (n : Int) (h : isz n = false) (w : World) : Calls Tryz.prog 168 #[.int .i64 n] w fun e w' => e = .returned (.bool false) ∧ w' = w := by
  obtain ⟨⟨h1, h2⟩, h4, h8⟩ := isz_false h
  clear h
  go_enter Tryz.func168, Tryz.ntmps168
  go_wp2
  go_ret
  exact ⟨rfl, rfl⟩
theorem size_any (n : Int) (w : World) : Calls Tryz.prog 168 #[.int .i64 n] w fun e w' => e = .returned (.bool (isz n)) ∧ w' = w := by
  cases h : isz n
  · exact size_no n h w
  · exact size_yes n h w
def errOf (len at_ n : Int) : Int := if isz n = false ∨ at_ < 0 then 2 else if len - at_ < n then 10 else 0
theorem errOf_ok {l a n : Int} (h : isz n = true) (h1 : 0 ≤ a) (h2 : n ≤ l - a) : errOf l a n = 0 := by
  rw [errOf, if_neg (by rw [h]; simp; omega), if_neg (by omega)]

end Go.Proofs.YtekenpgagfmgkaaGreat.Wd
end
section
namespace Go.Proofs.YtekenpgagfmgkaaGreat.Wd
open Go.ChangeShapes Go.WideShapes Go.ChangeAt Go.RowKit
open Go.PlainAid (bt get_bt bt_nonneg bt_le bt_end)
set_option linter.unusedVariables false

structure Gr (w w' : World) : Prop where
  below : Below w.heap.size w w'
  grown : Grown w w'
theorem Gr.refl (w : World) : Gr w w := ⟨Below.refl _ _, Grown.refl _⟩
theorem Gr.trans {a b c : World} (h : Gr a b) (k : Gr b c) : Gr a c :=
  ⟨h.below.trans (k.below.mono h.below.size), ⟨World.keptBut_trans h.grown.1 k.grown.1, fun x => (k.grown.2.1 x).trans (h.grown.2.1 x), Nat.le_trans h.grown.2.2 k.grown.2.2⟩⟩

theorem or_mul (a b i m : Nat) (hm : m = 2 ^ i) (h : a < m) : a ||| (b * m) = b * m + a := by
  subst hm
  rw [Nat.or_comm, ← Nat.shiftLeft_eq, Nat.shiftLeft_add_eq_or_of_lt h]

theorem or_step (a b : Int) (i m : Nat) (hm : m = 2 ^ i) (h0 : 0 ≤ a) (h1 : a < m) (hb : 0 ≤ b) (hs : b * m + a < 18446744073709551616) : bits .or .u64 a (b * (m : Int)) = b * m + a := by
  obtain ⟨n, rfl⟩ := Int.eq_ofNat_of_zero_le h0
  obtain ⟨k, rfl⟩ := Int.eq_ofNat_of_zero_le hb
  have e : (k : Int) * (m : Int) = ((k * m : Nat) : Int) := by simp
  rw [e] at hs ⊢
  rw [Go.u64_or_nat n (k * m) (by omega) (by omega), or_mul n k i m hm (by omega)]
  omega

theorem or_zero (b : Int) (h0 : 0 ≤ b) (h1 : b ≤ 255) : bits .or .u64 0 b = b := by
  have := or_step 0 b 0 1 (by decide) (by omega) (by omega) h0 (by omega)
  simpa using this

theorem sum8 (b0 b1 b2 b3 b4 b5 b6 b7 : Int) (h0 : 0 ≤ b0 ∧ b0 ≤ 255) (h1 : 0 ≤ b1 ∧ b1 ≤ 255) (h2 : 0 ≤ b2 ∧ b2 ≤ 255) (h3 : 0 ≤ b3 ∧ b3 ≤ 255) (h4 : 0 ≤ b4 ∧ b4 ≤ 255) (h5 : 0 ≤ b5 ∧ b5 ≤ 255) (h6 : 0 ≤ b6 ∧ b6 ≤ 255) (h7 : 0 ≤ b7 ∧ b7 ≤ 255) :
    bits BinOp.or IntKind.u64 (bits BinOp.or IntKind.u64 (bits BinOp.or IntKind.u64 (bits BinOp.or IntKind.u64 (bits BinOp.or IntKind.u64 (bits BinOp.or IntKind.u64 (bits BinOp.or IntKind.u64 (bits BinOp.or IntKind.u64 0 b0) (b1 * 256)) (b2 * 65536)) (b3 * 16777216)) (b4 * 4294967296)) (b5 * 1099511627776)) (b6 * 281474976710656)) (b7 * 72057594037927936)
      = b0 + 256 * (b1 + 256 * (b2 + 256 * (b3 + 256 * (b4 + 256 * (b5 + 256 * (b6 + 256 * b7)))))) := by
  rw [or_zero b0 h0.1 h0.2]
  have e1 := or_step b0 b1 8 256 (by decide) (by omega) (by omega) h1.1 (by omega)
  have e2 := fun a h0 h1 hs => or_step a b2 16 65536 (by decide) h0 h1 h2.1 hs
  have e3 := fun a h0 h1 hs => or_step a b3 24 16777216 (by decide) h0 h1 h3.1 hs
  have e4 := fun a h0 h1 hs => or_step a b4 32 4294967296 (by decide) h0 h1 h4.1 hs
  have e5 := fun a h0 h1 hs => or_step a b5 40 1099511627776 (by decide) h0 h1 h5.1 hs
  have e6 := fun a h0 h1 hs => or_step a b6 48 281474976710656 (by decide) h0 h1 h6.1 hs
  have e7 := fun a h0 h1 hs => or_step a b7 56 72057594037927936 (by decide) h0 h1 h7.1 hs
  simp only [Int.cast_ofNat_Int] at e1 e2 e3 e4 e5 e6 e7
  rw [e1, e2 _ (by omega) (by omega) (by omega), e3 _ (by omega) (by omega) (by omega), e4 _ (by omega) (by omega) (by omega), e5 _ (by omega) (by omega) (by omega), e6 _ (by omega) (by omega) (by omega), e7 _ (by omega) (by omega) (by omega)]
  omega

theorem ret_int {k : IntKind} {a b : Int} (h : a = b) : Ending.returned (.int k a) = .returned (.int k b) := by rw [h]

end Go.Proofs.YtekenpgagfmgkaaGreat.Wd
end
section
namespace Go.Proofs.YtekenpgagfmgkaaGreat.Wd
open Go.ChangeShapes Go.WideShapes Go.ChangeAt Go.RowKit
open Go.PlainAid (bt get_bt bt_nonneg bt_le bt_end)
set_option linter.unusedVariables false

/-- The k lowest bytes of x, the lowest first. -/
def digs (x : Int) : Nat → List Int
  | 0 => []
  | k + 1 => x % 256 :: digs (x / 256) k
theorem length_digs : ∀ (k : Nat) (x : Int), (digs x k).length = k
  | 0, _ => rfl
  | k + 1, x => by simp [digs, length_digs k]

def ofB (x : Int) (n : Int) : ByteArray := if isz n then strOfNums (digs x n.toNat) else ByteArray.empty

theorem digs1 (x : Int) : digs x 1 = [x % 256] := rfl
theorem digs2 (x : Int) : digs x 2 = [x % 256, x / 256 % 256] := rfl
theorem digs4 (x : Int) : digs x 4 = [x % 256, x / 256 % 256, x / 65536 % 256, x / 16777216 % 256] := by
  simp only [digs]; congr 1; congr 1
  have e1 : x / 256 / 256 = x / 65536 := by omega
  have e2 : x / 65536 / 256 = x / 16777216 := by omega
  rw [e1, e2]
theorem digs8 (x : Int) (h0 : 0 ≤ x) (h1 : x ≤ 18446744073709551615) : digs x 8 = [x % 256, x / 256 % 256, x / 65536 % 256, x / 16777216 % 256, x / 4294967296 % 256, x / 1099511627776 % 256, x / 281474976710656 % 256, x / 72057594037927936] := by
  simp only [digs]; congr 1; congr 1
  have e1 : x / 256 / 256 = x / 65536 := by omega
  have e2 : x / 65536 / 256 = x / 16777216 := by omega
  have e3 : x / 16777216 / 256 = x / 4294967296 := by omega
  have e4 : x / 4294967296 / 256 = x / 1099511627776 := by omega
  have e5 : x / 1099511627776 / 256 = x / 281474976710656 := by omega
  have e6 : x / 281474976710656 / 256 = x / 72057594037927936 := by omega
  have e7 : x / 72057594037927936 % 256 = x / 72057594037927936 := by omega
  rw [e1, e2, e3, e4, e5, e6, e7]

theorem ret_str {a b : ByteArray} (h : a = b) : Ending.returned (.string a) = .returned (.string b) := by rw [h]

theorem strOfNums_append (a b : List Int) : strOfNums a ++ strOfNums b = strOfNums (a ++ b) := by
  apply ByteArray.ext
  simp [strOfNums]

end Go.Proofs.YtekenpgagfmgkaaGreat.Wd
end
section
namespace Go.Proofs.YtekenpgagfmgkaaGreat.Wd
open Go.ChangeShapes Go.WideShapes Go.ChangeAt Go.RowKit
open Go.PlainAid (bt get_bt bt_nonneg bt_le bt_end)
set_option linter.unusedVariables false

/-- The number whose n bytes stand in s from a on, the lowest first. -/
def numAt (s : ByteArray) (a : Nat) : Nat → Int
  | 0 => 0
  | n + 1 => bt s a + 256 * numAt s (a + 1) n

theorem bt_bd (s : ByteArray) (k : Nat) : 0 ≤ bt s k ∧ bt s k ≤ 255 := ⟨bt_nonneg s k, bt_le s k⟩

theorem bt_list (s : ByteArray) (k : Nat) (h : k < s.data.toList.length) : ((s.data.toList[k]).toNat : Int) = bt s k := by
  have h' : k < s.size := by rw [Lib.size_eq]; exact h
  rw [← get_bt s k h']; rfl

theorem cells_ext (s : ByteArray) (a n : Nat) (h : a + n ≤ s.size) : Lib.byteCells (s.extract a (a + n)).data.toList = (List.range n).map fun i => Value.int .u8 (bt s (a + i)) := by
  have hl : s.data.toList.length = s.size := (Lib.size_eq s).symm
  rw [Lib.extract_data, Lib.byteCells]
  apply List.ext_getElem
  · simp; omega
  · intro i h1 h2
    simp only [List.length_map, List.length_range] at h2
    simp only [List.getElem_map, List.getElem_range, List.getElem_take, List.getElem_drop]
    rw [bt_list]

def zeros : List Value := [.int .u8 0, .int .u8 0, .int .u8 0, .int .u8 0, .int .u8 0, .int .u8 0, .int .u8 0, .int .u8 0]

def getV (s : ByteArray) (a n : Int) : Int := if errOf s.size a n = 0 then numAt s a.toNat n.toNat else 0

theorem ret_two {k k' : IntKind} {a b a' b' : Int} (h : a = b) (h' : a' = b') : Ending.returned (.tuple #[.int k a, .int k' a']) = .returned (.tuple #[.int k b, .int k' b']) := by rw [h, h']

end Go.Proofs.YtekenpgagfmgkaaGreat.Wd
end
section
namespace Go.Proofs.YtekenpgagfmgkaaGreat.Wd
open Go.ChangeShapes Go.WideShapes Go.ChangeAt Go.RowKit
open Go.PlainAid (bt get_bt bt_nonneg bt_le bt_end)
set_option linter.unusedVariables false

theorem errOf_zero {l a n : Int} (he : errOf l a n = 0) : isz n = true ∧ 0 ≤ a ∧ n ≤ l - a := by
  have h1 : isz n = true := by
    cases h : isz n
    · rw [errOf, if_pos (Or.inl h)] at he; omega
    · rfl
  have h2 : 0 ≤ a := by
    by_cases h : a < 0
    · rw [errOf, if_pos (Or.inr h)] at he; omega
    · omega
  refine ⟨h1, h2, ?_⟩
  by_cases h : l - a < n
  · rw [errOf, if_neg (by rw [h1]; simp; omega), if_pos h] at he; omega
  · omega

def lowV (x n : Int) : Int := if isz n then x % 256 ^ n.toNat else 0
def signV (x n : Int) : Int := if isz n then (if x % 256 ^ n.toNat * 2 < 256 ^ n.toNat then x % 256 ^ n.toNat else x % 256 ^ n.toNat - 256 ^ n.toNat) else 0

theorem lowV1 (x : Int) : lowV x 1 = x % 256 := by simp [lowV, isz]
theorem lowV2 (x : Int) : lowV x 2 = x % 65536 := by simp [lowV, isz]
theorem lowV4 (x : Int) : lowV x 4 = x % 4294967296 := by simp [lowV, isz]
theorem lowV8 (x : Int) : lowV x 8 = x % 18446744073709551616 := by simp [lowV, isz]
theorem lowV0 {n : Int} (x : Int) (h : isz n = false) : lowV x n = 0 := by simp [lowV, h]
theorem signV1 (x : Int) : signV x 1 = if x % 256 < 128 then x % 256 else x % 256 - 256 := by
  rw [signV, if_pos (by decide)]; simp only [Int.reduceToNat, Int.reducePow]; split <;> split <;> omega
theorem signV2 (x : Int) : signV x 2 = if x % 65536 < 32768 then x % 65536 else x % 65536 - 65536 := by
  rw [signV, if_pos (by decide)]; simp only [Int.reduceToNat, Int.reducePow]; split <;> split <;> omega
theorem signV4 (x : Int) : signV x 4 = if x % 4294967296 < 2147483648 then x % 4294967296 else x % 4294967296 - 4294967296 := by
  rw [signV, if_pos (by decide)]; simp only [Int.reduceToNat, Int.reducePow]; split <;> split <;> omega
theorem signV8 (x : Int) : signV x 8 = if x % 18446744073709551616 < 9223372036854775808 then x % 18446744073709551616 else x % 18446744073709551616 - 18446744073709551616 := by
  rw [signV, if_pos (by decide)]; simp only [Int.reduceToNat, Int.reducePow]; split <;> split <;> omega
theorem signV0 {n : Int} (x : Int) (h : isz n = false) : signV x n = 0 := by simp [signV, h]

set_option maxHeartbeats 1000000 in
theorem low_any (x n : Int) (h0 : 0 ≤ x) (h1 : x ≤ 18446744073709551615) (w : World) : Calls Tryz.prog 75 #[.int .u64 x, .int .i64 n] w fun e w' => e = .returned (.int .u64 (lowV x n)) ∧ w' = w := by
  cases h : isz n
  · go_enter Tryz.func75, Tryz.ntmps75
    go_wp2_with (go_at_call 168; refine (size_no _ (by assumption) _).mono ?_; rintro e w' ⟨rfl, rfl⟩)
    go_ret
    exact ⟨ret_int (lowV0 x h).symm, rfl⟩
  · have hh := isz_true h
    clear h
    rcases hh with rfl | rfl | rfl | rfl
    all_goals
      go_enter Tryz.func75, Tryz.ntmps75
      go_wp2_with (go_at_call 168; refine (size_yes _ (by decide) _).mono ?_; rintro e w' ⟨rfl, rfl⟩)
      go_ret
      refine ⟨ret_int ?_, rfl⟩
    · rw [lowV1, IntKind.wrap_u64]; omega
    · rw [lowV2, IntKind.wrap_u64]; omega
    · rw [lowV4, IntKind.wrap_u64]; omega
    · rw [lowV8]; omega

set_option maxHeartbeats 1000000 in
theorem sign_any (x n : Int) (h0 : 0 ≤ x) (h1 : x ≤ 18446744073709551615) (w : World) : Calls Tryz.prog 165 #[.int .u64 x, .int .i64 n] w fun e w' => e = .returned (.int .i64 (signV x n)) ∧ w' = w := by
  cases h : isz n
  · go_enter Tryz.func165, Tryz.ntmps165
    go_wp2_with (go_at_call 168; refine (size_no _ (by assumption) _).mono ?_; rintro e w' ⟨rfl, rfl⟩)
    go_ret
    exact ⟨ret_int (signV0 x h).symm, rfl⟩
  · have hh := isz_true h
    clear h
    rcases hh with rfl | rfl | rfl | rfl
    all_goals
      go_enter Tryz.func165, Tryz.ntmps165
      go_wp2_with (go_at_call 168; refine (size_yes _ (by decide) _).mono ?_; rintro e w' ⟨rfl, rfl⟩)
      go_ret
      refine ⟨ret_int ?_, rfl⟩
    · rw [signV1]; (try simp only [wrap64]); (try simp only [IntKind.wrap_u64]); split <;> omega
    · rw [signV2]; (try simp only [wrap64]); (try simp only [IntKind.wrap_u64]); split <;> omega
    · rw [signV4]; (try simp only [wrap64]); (try simp only [IntKind.wrap_u64]); split <;> omega
    · rw [signV8]; (try simp only [wrap64]); (try simp only [IntKind.wrap_u64]); split <;> omega
end Go.Proofs.YtekenpgagfmgkaaGreat.Wd
end
section
namespace Go.Proofs.YtekenpgagfmgkaaGreat.Wd
open Go.ChangeShapes Go.WideShapes Go.ChangeAt Go.RowKit
open Go.PlainAid (bt get_bt bt_nonneg bt_le bt_end)
set_option linter.unusedVariables false

theorem size_ofB {x n : Int} (h : isz n = true) : (ofB x n).size = n.toNat := by
  rw [ofB, if_pos h, strOfNums_size, length_digs]

def setB (s : ByteArray) (a : Int) (x n : Int) : ByteArray := if errOf s.size a n = 0 then s.extract 0 a.toNat ++ ofB x n ++ s.extract (a.toNat + n.toNat) s.size else ByteArray.empty

theorem ret_sn {k : IntKind} {a b : ByteArray} {a' b' : Int} (h : a = b) (h' : a' = b') : Ending.returned (.tuple #[.string a, .int k a']) = .returned (.tuple #[.string b, .int k b']) := by rw [h, h']

end Go.Proofs.YtekenpgagfmgkaaGreat.Wd
end
section
namespace Go.Proofs.YtekenpgagfmgkaaGreat.Wd
open Go.ChangeShapes Go.WideShapes Go.ChangeAt Go.RowKit
open Go.PlainAid (bt get_bt bt_nonneg bt_le bt_end)
set_option linter.unusedVariables false

theorem bt_str (l : List Int) (k : Nat) (h : k < l.length) (hb : 0 ≤ l[k] ∧ l[k] ≤ 255) : bt (strOfNums l) k = l[k] := by
  have hk : k < (strOfNums l).data.toList.length := by rw [strOfNums_data, List.length_map]; exact h
  rw [← bt_list _ k hk, List.getElem_of_eq (strOfNums_data l) hk]
  simp only [List.getElem_map, UInt8.toNat_ofNat']
  omega

theorem digs_get : ∀ (n : Nat) (x : Int) (k : Nat) (h : k < (digs x n).length), (digs x n)[k] = x / 256 ^ k % 256
  | 0, x, k, h => by simp [digs] at h
  | n + 1, x, 0, h => by simp [digs]
  | n + 1, x, k + 1, h => by
    simp only [digs, List.getElem_cons_succ]
    rw [digs_get n (x / 256) k]
    rw [Int.ediv_ediv_of_nonneg (by omega), Int.pow_succ, Int.mul_comm]

theorem bt_ofB (x n : Int) (hn : isz n = true) (k : Nat) (h : k < n.toNat) : bt (ofB x n) k = x / 256 ^ k % 256 := by
  rw [ofB, if_pos hn]
  have hl : k < (digs x n.toNat).length := by rw [length_digs]; exact h
  have e := digs_get n.toNat x k hl
  rw [bt_str _ k hl (by rw [e]; omega), e]

theorem num_ofB (x n : Int) (hn : isz n = true) : numAt (ofB x n) 0 n.toNat = lowV x n := by
  have hb := bt_ofB x n hn
  rcases isz_true hn with rfl | rfl | rfl | rfl
  · rw [lowV1]; simp only [Int.reduceToNat, numAt] at hb ⊢; (try simp only [Nat.zero_add]); (try simp only [Nat.reduceAdd])
    rw [hb 0 (by omega)]; simp only [Int.reducePow]; omega
  · rw [lowV2]; simp only [Int.reduceToNat, numAt] at hb ⊢; (try simp only [Nat.zero_add]); (try simp only [Nat.reduceAdd])
    rw [hb 0 (by omega), hb 1 (by omega)]; simp only [Int.reducePow]; omega
  · rw [lowV4]; simp only [Int.reduceToNat, numAt] at hb ⊢; (try simp only [Nat.zero_add]); (try simp only [Nat.reduceAdd])
    rw [hb 0 (by omega), hb 1 (by omega), hb 2 (by omega), hb 3 (by omega)]; simp only [Int.reducePow]; omega
  · rw [lowV8]; simp only [Int.reduceToNat, numAt] at hb ⊢; (try simp only [Nat.zero_add]); (try simp only [Nat.reduceAdd])
    rw [hb 0 (by omega), hb 1 (by omega), hb 2 (by omega), hb 3 (by omega), hb 4 (by omega), hb 5 (by omega), hb 6 (by omega), hb 7 (by omega)]; simp only [Int.reducePow]; omega

theorem get_ofB (x n : Int) : getV (ofB x n) 0 n = lowV x n := by
  cases hn : isz n
  · rw [lowV0 x hn, getV, if_neg]
    rw [errOf, if_pos (Or.inl hn)]; decide
  · rw [getV, if_pos (errOf_ok hn (by omega) (by rw [size_ofB hn]; have := isz_true hn; omega))]
    exact num_ofB x n hn

theorem small_ofB (x n : Int) : (ofB x n).size ≤ maxLen := by
  cases hn : isz n
  · rw [ofB, hn]; exact Nat.zero_le _
  · rw [size_ofB hn]; have := isz_true hn; unfold maxLen; omega

theorem or_i64 (m b : Int) (h0 : 0 ≤ b) (h1 : b < 256) (hm : -36028797018963968 ≤ m ∧ m < 36028797018963968) : bits .or .i64 (m * 256) b = m * 256 + b := by
  obtain ⟨M, hM⟩ : ∃ M : Nat, (m % 72057594037927936) = (M : Int) := Int.eq_ofNat_of_zero_le (by omega)
  obtain ⟨B, rfl⟩ := Int.eq_ofNat_of_zero_le h0
  have e1 : (BitVec.ofInt 64 (m * 256)).toNat = M * 256 := by
    rw [BitVec.toNat_ofInt]; simp only [Nat.reducePow]; omega
  have e2 : (BitVec.ofInt 64 (B : Int)).toNat = B := by
    rw [BitVec.toNat_ofInt]; simp only [Nat.reducePow]; omega
  have e3 : bits .or .i64 (m * 256) (B : Int) = IntKind.i64.wrap (((BitVec.ofInt 64 (m * 256)) ||| (BitVec.ofInt 64 (B : Int))).toNat : Int) := rfl
  rw [e3, BitVec.toNat_or, e1, e2, Nat.or_comm, or_mul B M 8 256 (by decide) (by omega), IntKind.wrap_i64]
  omega

theorem or_w (m b : Int) (h0 : 0 ≤ b) (h1 : b ≤ 255) (hm : -36028797018963968 ≤ m ∧ m < 36028797018963968) : bits .or .i64 (wrap64 (m * 256)) b = m * 256 + b := by
  rw [IntWalk.wrap64_in _ ⟨by omega, by omega⟩]
  exact or_i64 m b h0 (by omega) hm
theorem or_m (b : Int) (h0 : 0 ≤ b) (h1 : b ≤ 255) : bits .or .i64 (-256) b = b - 256 := by
  have := or_i64 (-1) b h0 (by omega) (by omega)
  rw [show (-256 : Int) = -1 * 256 from rfl, this]; omega
theorem or_0 (b : Int) (h0 : 0 ≤ b) (h1 : b ≤ 255) : bits .or .i64 0 b = b := by
  have := or_i64 0 b h0 (by omega) (by omega)
  simpa using this

end Go.Proofs.YtekenpgagfmgkaaGreat.Wd
end
section
namespace Go.Proofs.YtekenpgagfmgkaaGreat.Wd
open Go.ChangeShapes Go.WideShapes Go.ChangeAt Go.RowKit
set_option linter.unusedVariables false
set_option maxRecDepth 20000

def keyNe (k : Int) (e : MapEntry) : Bool := match e.key with | .int .u8 a => !(k == a) | _ => false

theorem find_none (k : Int) : ∀ (l : List MapEntry) (i : Nat), l.all (keyNe k) = true → Instr.findNow (.int .u8) (.int .u8 k) l i = some none
  | [], _, _ => rfl
  | e :: l, i, h => by
    simp only [List.all_cons, Bool.and_eq_true] at h
    obtain ⟨h1, h2⟩ := h
    obtain ⟨key, val, born⟩ := e
    unfold keyNe at h1
    split at h1
    · rename_i a hk
      simp only at hk
      subst hk
      simp only [Bool.not_eq_true'] at h1
      simp [Instr.findNow, Instr.sameNow, h1, find_none k l (i + 1) h2]
    · cases h1

theorem run_update {P : Program} {t k e : TypeId} (ht : P.underlying t = some (.map k e)) (hk : P.underlying k = some (.int .u8)) (W : World) (g n : Nat) (l : List MapEntry) (c : Int) (v : Value) (hg : g = W.heap.size) (hl : l.all (keyNe c) = true) :
    (Instr.mapUpdate t (.map (some g)) (.int .u8 c) v).run P (W.alloc (.map l.toArray n)) = .ok () (W.alloc (.map (l ++ [MapEntry.mk (.int .u8 c) v n]).toArray (n + 1))) := by
  subst hg
  have hb : (W.alloc (.map l.toArray n)).heap[W.heap.size]? = some (.map l.toArray n) := (MapKept.heap_alloc W _).1
  have hc : (Instr.checkKey false 10000 k (.int .u8 c)).run P (W.alloc (.map l.toArray n)) = .ok () (W.alloc (.map l.toArray n)) := MapKept.run_checkKey hk (by simp [MapKept.IsKey]) false 9999
  have hf := MapKept.run_findKey (w := W.alloc (.map l.toArray n)) hk (find_none c l 0 hl)
  have hs : ∀ o : Obj, ({ W.alloc (.map l.toArray n) with heap := (W.alloc (.map l.toArray n)).heap.setIfInBounds W.heap.size o } : World) = W.alloc o := fun o => by
    have e1 : (W.alloc (.map l.toArray n)).heap = W.heap.push (.map l.toArray n) := rfl
    have e2 : (W.heap.push (.map l.toArray n)).setIfInBounds W.heap.size o = W.heap.push o := by
      apply Array.ext_getElem?
      intro i
      by_cases hi : W.heap.size = i
      · subst hi; simp
      · rw [Array.getElem?_setIfInBounds_ne hi, Array.getElem?_push, Array.getElem?_push, if_neg (Ne.symm hi), if_neg (Ne.symm hi)]
    rw [e1, e2]; rfl
  simp [Instr.mapUpdate, run_underlying ht, MapKept.run_getObj_map hb, hc, hf, MapKept.run_setObj_map _ hb, Result.andThen]
  exact hs _

theorem find_at (k : Int) (v : Value) (n : Nat) : ∀ (l l' : List MapEntry) (i : Nat), l.all (keyNe k) = true → Instr.findNow (.int .u8) (.int .u8 k) (l ++ MapEntry.mk (.int .u8 k) v n :: l') i = some (some (i + l.length, v))
  | [], l', i, _ => by simp [Instr.findNow, Instr.sameNow]
  | e :: l, l', i, h => by
    simp only [List.all_cons, Bool.and_eq_true] at h
    obtain ⟨h1, h2⟩ := h
    obtain ⟨key, val, born⟩ := e
    unfold keyNe at h1
    split at h1
    · rename_i a hk
      simp only at hk
      subst hk
      simp only [Bool.not_eq_true'] at h1
      simp only [List.cons_append, Instr.findNow, Instr.sameNow, h1, if_true, find_at k v n l l' (i + 1) h2, List.length_cons]
      simp only [Option.some.injEq, Prod.mk.injEq, and_true]
      omega
    · cases h1

theorem run_look_yes {P : Program} {t k e : TypeId} (ht : P.underlying t = some (.map k e)) (hk : P.underlying k = some (.int .u8)) {w : World} {g n m : Nat} (l l' : List MapEntry) (c : Int) (v : Value) (hb : w.heap[g]? = some (.map (l ++ MapEntry.mk (.int .u8 c) v m :: l').toArray n)) (hl : l.all (keyNe c) = true) :
    (Instr.lookup t (.map (some g)) (.int .u8 c) true).run P w = .ok (.tuple #[v, .bool true]) w := by
  have hc : ∀ q, (Instr.checkKey q 10000 k (.int .u8 c)).run P w = .ok () w := fun q => MapKept.run_checkKey hk (by simp [MapKept.IsKey]) q 9999
  have hf := MapKept.run_findKey (P := P) (w := w) hk (find_at c v m l l' 0 hl)
  simp [Instr.lookup, run_underlying ht, MapKept.run_getObj_map hb, hc, hf, Result.andThen]

theorem run_look_no {P : Program} {t k e : TypeId} (ht : P.underlying t = some (.map k e)) (hk : P.underlying k = some (.int .u8)) {w : World} {g n : Nat} (l : List MapEntry) (c : Int) (z : Value) (hb : w.heap[g]? = some (.map l.toArray n)) (hz : (zeroValue e).run P w = .ok z w) (hl : l.all (keyNe c) = true) :
    (Instr.lookup t (.map (some g)) (.int .u8 c) true).run P w = .ok (.tuple #[z, .bool false]) w := by
  have hc : ∀ q, (Instr.checkKey q 10000 k (.int .u8 c)).run P w = .ok () w := fun q => MapKept.run_checkKey hk (by simp [MapKept.IsKey]) q 9999
  have hf := MapKept.run_findKey (P := P) (w := w) hk (find_none c l 0 hl)
  simp [Instr.lookup, run_underlying ht, MapKept.run_getObj_map hb, hc, hf, hz, Result.andThen]

abbrev fv (k : Nat) (cap : List Nat) : Value := .func (.func k) #[] (cap.map fun p => .pointer (some ⟨p, 0, none⟩)).toArray

def sz (wd : Bool) : Int := if wd then 8 else 4

theorem sizeOf_any (wd : Bool) (w : World) : Calls Tryz.prog 73 #[.bool wd] w fun e w' => e = .returned (.int .i64 (sz wd)) ∧ w' = w := by
  cases wd
  all_goals
    go_enter Tryz.func73, Tryz.ntmps73
    go_wp2
    go_ret
    exact ⟨rfl, rfl⟩

theorem dup0 (W : World) (g : Nat) (v0 : Value) (hg : g = W.heap.size) : (Instr.mapUpdate 96 (.map (some g)) (.int .u8 0) v0).run Tryz.prog (W.alloc (.map #[] 0)) = .ok () (W.alloc (.map #[⟨.int .u8 0, v0, 0⟩] 1)) :=
  run_update Tryz.underlying96 Tryz.underlying5 W g 0 [] 0 v0 hg (by rfl)
theorem dup1 (W : World) (g : Nat) (v0 v1 : Value) (hg : g = W.heap.size) : (Instr.mapUpdate 96 (.map (some g)) (.int .u8 1) v1).run Tryz.prog (W.alloc (.map #[⟨.int .u8 0, v0, 0⟩] 1)) = .ok () (W.alloc (.map #[⟨.int .u8 0, v0, 0⟩, ⟨.int .u8 1, v1, 1⟩] 2)) :=
  run_update Tryz.underlying96 Tryz.underlying5 W g 1 [⟨.int .u8 0, v0, 0⟩] 1 v1 hg (by rfl)
theorem dup2 (W : World) (g : Nat) (v0 v1 v2 : Value) (hg : g = W.heap.size) : (Instr.mapUpdate 96 (.map (some g)) (.int .u8 2) v2).run Tryz.prog (W.alloc (.map #[⟨.int .u8 0, v0, 0⟩, ⟨.int .u8 1, v1, 1⟩] 2)) = .ok () (W.alloc (.map #[⟨.int .u8 0, v0, 0⟩, ⟨.int .u8 1, v1, 1⟩, ⟨.int .u8 2, v2, 2⟩] 3)) :=
  run_update Tryz.underlying96 Tryz.underlying5 W g 2 [⟨.int .u8 0, v0, 0⟩, ⟨.int .u8 1, v1, 1⟩] 2 v2 hg (by rfl)
theorem dup3 (W : World) (g : Nat) (v0 v1 v2 v3 : Value) (hg : g = W.heap.size) : (Instr.mapUpdate 96 (.map (some g)) (.int .u8 3) v3).run Tryz.prog (W.alloc (.map #[⟨.int .u8 0, v0, 0⟩, ⟨.int .u8 1, v1, 1⟩, ⟨.int .u8 2, v2, 2⟩] 3)) = .ok () (W.alloc (.map #[⟨.int .u8 0, v0, 0⟩, ⟨.int .u8 1, v1, 1⟩, ⟨.int .u8 2, v2, 2⟩, ⟨.int .u8 3, v3, 3⟩] 4)) :=
  run_update Tryz.underlying96 Tryz.underlying5 W g 3 [⟨.int .u8 0, v0, 0⟩, ⟨.int .u8 1, v1, 1⟩, ⟨.int .u8 2, v2, 2⟩] 3 v3 hg (by rfl)
theorem dup4 (W : World) (g : Nat) (v0 v1 v2 v3 v4 : Value) (hg : g = W.heap.size) : (Instr.mapUpdate 96 (.map (some g)) (.int .u8 9) v4).run Tryz.prog (W.alloc (.map #[⟨.int .u8 0, v0, 0⟩, ⟨.int .u8 1, v1, 1⟩, ⟨.int .u8 2, v2, 2⟩, ⟨.int .u8 3, v3, 3⟩] 4)) = .ok () (W.alloc (.map #[⟨.int .u8 0, v0, 0⟩, ⟨.int .u8 1, v1, 1⟩, ⟨.int .u8 2, v2, 2⟩, ⟨.int .u8 3, v3, 3⟩, ⟨.int .u8 9, v4, 4⟩] 5)) :=
  run_update Tryz.underlying96 Tryz.underlying5 W g 4 [⟨.int .u8 0, v0, 0⟩, ⟨.int .u8 1, v1, 1⟩, ⟨.int .u8 2, v2, 2⟩, ⟨.int .u8 3, v3, 3⟩] 9 v4 hg (by rfl)
theorem dup5 (W : World) (g : Nat) (v0 v1 v2 v3 v4 v5 : Value) (hg : g = W.heap.size) : (Instr.mapUpdate 96 (.map (some g)) (.int .u8 4) v5).run Tryz.prog (W.alloc (.map #[⟨.int .u8 0, v0, 0⟩, ⟨.int .u8 1, v1, 1⟩, ⟨.int .u8 2, v2, 2⟩, ⟨.int .u8 3, v3, 3⟩, ⟨.int .u8 9, v4, 4⟩] 5)) = .ok () (W.alloc (.map #[⟨.int .u8 0, v0, 0⟩, ⟨.int .u8 1, v1, 1⟩, ⟨.int .u8 2, v2, 2⟩, ⟨.int .u8 3, v3, 3⟩, ⟨.int .u8 9, v4, 4⟩, ⟨.int .u8 4, v5, 5⟩] 6)) :=
  run_update Tryz.underlying96 Tryz.underlying5 W g 5 [⟨.int .u8 0, v0, 0⟩, ⟨.int .u8 1, v1, 1⟩, ⟨.int .u8 2, v2, 2⟩, ⟨.int .u8 3, v3, 3⟩, ⟨.int .u8 9, v4, 4⟩] 4 v5 hg (by rfl)
theorem dup6 (W : World) (g : Nat) (v0 v1 v2 v3 v4 v5 v6 : Value) (hg : g = W.heap.size) : (Instr.mapUpdate 96 (.map (some g)) (.int .u8 5) v6).run Tryz.prog (W.alloc (.map #[⟨.int .u8 0, v0, 0⟩, ⟨.int .u8 1, v1, 1⟩, ⟨.int .u8 2, v2, 2⟩, ⟨.int .u8 3, v3, 3⟩, ⟨.int .u8 9, v4, 4⟩, ⟨.int .u8 4, v5, 5⟩] 6)) = .ok () (W.alloc (.map #[⟨.int .u8 0, v0, 0⟩, ⟨.int .u8 1, v1, 1⟩, ⟨.int .u8 2, v2, 2⟩, ⟨.int .u8 3, v3, 3⟩, ⟨.int .u8 9, v4, 4⟩, ⟨.int .u8 4, v5, 5⟩, ⟨.int .u8 5, v6, 6⟩] 7)) :=
  run_update Tryz.underlying96 Tryz.underlying5 W g 6 [⟨.int .u8 0, v0, 0⟩, ⟨.int .u8 1, v1, 1⟩, ⟨.int .u8 2, v2, 2⟩, ⟨.int .u8 3, v3, 3⟩, ⟨.int .u8 9, v4, 4⟩, ⟨.int .u8 4, v5, 5⟩] 5 v6 hg (by rfl)
theorem dup7 (W : World) (g : Nat) (v0 v1 v2 v3 v4 v5 v6 v7 : Value) (hg : g = W.heap.size) : (Instr.mapUpdate 96 (.map (some g)) (.int .u8 10) v7).run Tryz.prog (W.alloc (.map #[⟨.int .u8 0, v0, 0⟩, ⟨.int .u8 1, v1, 1⟩, ⟨.int .u8 2, v2, 2⟩, ⟨.int .u8 3, v3, 3⟩, ⟨.int .u8 9, v4, 4⟩, ⟨.int .u8 4, v5, 5⟩, ⟨.int .u8 5, v6, 6⟩] 7)) = .ok () (W.alloc (.map #[⟨.int .u8 0, v0, 0⟩, ⟨.int .u8 1, v1, 1⟩, ⟨.int .u8 2, v2, 2⟩, ⟨.int .u8 3, v3, 3⟩, ⟨.int .u8 9, v4, 4⟩, ⟨.int .u8 4, v5, 5⟩, ⟨.int .u8 5, v6, 6⟩, ⟨.int .u8 10, v7, 7⟩] 8)) :=
  run_update Tryz.underlying96 Tryz.underlying5 W g 7 [⟨.int .u8 0, v0, 0⟩, ⟨.int .u8 1, v1, 1⟩, ⟨.int .u8 2, v2, 2⟩, ⟨.int .u8 3, v3, 3⟩, ⟨.int .u8 9, v4, 4⟩, ⟨.int .u8 4, v5, 5⟩, ⟨.int .u8 5, v6, 6⟩] 10 v7 hg (by rfl)
theorem dup8 (W : World) (g : Nat) (v0 v1 v2 v3 v4 v5 v6 v7 v8 : Value) (hg : g = W.heap.size) : (Instr.mapUpdate 96 (.map (some g)) (.int .u8 6) v8).run Tryz.prog (W.alloc (.map #[⟨.int .u8 0, v0, 0⟩, ⟨.int .u8 1, v1, 1⟩, ⟨.int .u8 2, v2, 2⟩, ⟨.int .u8 3, v3, 3⟩, ⟨.int .u8 9, v4, 4⟩, ⟨.int .u8 4, v5, 5⟩, ⟨.int .u8 5, v6, 6⟩, ⟨.int .u8 10, v7, 7⟩] 8)) = .ok () (W.alloc (.map #[⟨.int .u8 0, v0, 0⟩, ⟨.int .u8 1, v1, 1⟩, ⟨.int .u8 2, v2, 2⟩, ⟨.int .u8 3, v3, 3⟩, ⟨.int .u8 9, v4, 4⟩, ⟨.int .u8 4, v5, 5⟩, ⟨.int .u8 5, v6, 6⟩, ⟨.int .u8 10, v7, 7⟩, ⟨.int .u8 6, v8, 8⟩] 9)) :=
  run_update Tryz.underlying96 Tryz.underlying5 W g 8 [⟨.int .u8 0, v0, 0⟩, ⟨.int .u8 1, v1, 1⟩, ⟨.int .u8 2, v2, 2⟩, ⟨.int .u8 3, v3, 3⟩, ⟨.int .u8 9, v4, 4⟩, ⟨.int .u8 4, v5, 5⟩, ⟨.int .u8 5, v6, 6⟩, ⟨.int .u8 10, v7, 7⟩] 6 v8 hg (by rfl)
theorem dup9 (W : World) (g : Nat) (v0 v1 v2 v3 v4 v5 v6 v7 v8 v9 : Value) (hg : g = W.heap.size) : (Instr.mapUpdate 96 (.map (some g)) (.int .u8 7) v9).run Tryz.prog (W.alloc (.map #[⟨.int .u8 0, v0, 0⟩, ⟨.int .u8 1, v1, 1⟩, ⟨.int .u8 2, v2, 2⟩, ⟨.int .u8 3, v3, 3⟩, ⟨.int .u8 9, v4, 4⟩, ⟨.int .u8 4, v5, 5⟩, ⟨.int .u8 5, v6, 6⟩, ⟨.int .u8 10, v7, 7⟩, ⟨.int .u8 6, v8, 8⟩] 9)) = .ok () (W.alloc (.map #[⟨.int .u8 0, v0, 0⟩, ⟨.int .u8 1, v1, 1⟩, ⟨.int .u8 2, v2, 2⟩, ⟨.int .u8 3, v3, 3⟩, ⟨.int .u8 9, v4, 4⟩, ⟨.int .u8 4, v5, 5⟩, ⟨.int .u8 5, v6, 6⟩, ⟨.int .u8 10, v7, 7⟩, ⟨.int .u8 6, v8, 8⟩, ⟨.int .u8 7, v9, 9⟩] 10)) :=
  run_update Tryz.underlying96 Tryz.underlying5 W g 9 [⟨.int .u8 0, v0, 0⟩, ⟨.int .u8 1, v1, 1⟩, ⟨.int .u8 2, v2, 2⟩, ⟨.int .u8 3, v3, 3⟩, ⟨.int .u8 9, v4, 4⟩, ⟨.int .u8 4, v5, 5⟩, ⟨.int .u8 5, v6, 6⟩, ⟨.int .u8 10, v7, 7⟩, ⟨.int .u8 6, v8, 8⟩] 7 v9 hg (by rfl)
theorem dup10 (W : World) (g : Nat) (v0 v1 v2 v3 v4 v5 v6 v7 v8 v9 v10 : Value) (hg : g = W.heap.size) : (Instr.mapUpdate 96 (.map (some g)) (.int .u8 12) v10).run Tryz.prog (W.alloc (.map #[⟨.int .u8 0, v0, 0⟩, ⟨.int .u8 1, v1, 1⟩, ⟨.int .u8 2, v2, 2⟩, ⟨.int .u8 3, v3, 3⟩, ⟨.int .u8 9, v4, 4⟩, ⟨.int .u8 4, v5, 5⟩, ⟨.int .u8 5, v6, 6⟩, ⟨.int .u8 10, v7, 7⟩, ⟨.int .u8 6, v8, 8⟩, ⟨.int .u8 7, v9, 9⟩] 10)) = .ok () (W.alloc (.map #[⟨.int .u8 0, v0, 0⟩, ⟨.int .u8 1, v1, 1⟩, ⟨.int .u8 2, v2, 2⟩, ⟨.int .u8 3, v3, 3⟩, ⟨.int .u8 9, v4, 4⟩, ⟨.int .u8 4, v5, 5⟩, ⟨.int .u8 5, v6, 6⟩, ⟨.int .u8 10, v7, 7⟩, ⟨.int .u8 6, v8, 8⟩, ⟨.int .u8 7, v9, 9⟩, ⟨.int .u8 12, v10, 10⟩] 11)) :=
  run_update Tryz.underlying96 Tryz.underlying5 W g 10 [⟨.int .u8 0, v0, 0⟩, ⟨.int .u8 1, v1, 1⟩, ⟨.int .u8 2, v2, 2⟩, ⟨.int .u8 3, v3, 3⟩, ⟨.int .u8 9, v4, 4⟩, ⟨.int .u8 4, v5, 5⟩, ⟨.int .u8 5, v6, 6⟩, ⟨.int .u8 10, v7, 7⟩, ⟨.int .u8 6, v8, 8⟩, ⟨.int .u8 7, v9, 9⟩] 12 v10 hg (by rfl)
theorem dup11 (W : World) (g : Nat) (v0 v1 v2 v3 v4 v5 v6 v7 v8 v9 v10 v11 : Value) (hg : g = W.heap.size) : (Instr.mapUpdate 96 (.map (some g)) (.int .u8 8) v11).run Tryz.prog (W.alloc (.map #[⟨.int .u8 0, v0, 0⟩, ⟨.int .u8 1, v1, 1⟩, ⟨.int .u8 2, v2, 2⟩, ⟨.int .u8 3, v3, 3⟩, ⟨.int .u8 9, v4, 4⟩, ⟨.int .u8 4, v5, 5⟩, ⟨.int .u8 5, v6, 6⟩, ⟨.int .u8 10, v7, 7⟩, ⟨.int .u8 6, v8, 8⟩, ⟨.int .u8 7, v9, 9⟩, ⟨.int .u8 12, v10, 10⟩] 11)) = .ok () (W.alloc (.map #[⟨.int .u8 0, v0, 0⟩, ⟨.int .u8 1, v1, 1⟩, ⟨.int .u8 2, v2, 2⟩, ⟨.int .u8 3, v3, 3⟩, ⟨.int .u8 9, v4, 4⟩, ⟨.int .u8 4, v5, 5⟩, ⟨.int .u8 5, v6, 6⟩, ⟨.int .u8 10, v7, 7⟩, ⟨.int .u8 6, v8, 8⟩, ⟨.int .u8 7, v9, 9⟩, ⟨.int .u8 12, v10, 10⟩, ⟨.int .u8 8, v11, 11⟩] 12)) :=
  run_update Tryz.underlying96 Tryz.underlying5 W g 11 [⟨.int .u8 0, v0, 0⟩, ⟨.int .u8 1, v1, 1⟩, ⟨.int .u8 2, v2, 2⟩, ⟨.int .u8 3, v3, 3⟩, ⟨.int .u8 9, v4, 4⟩, ⟨.int .u8 4, v5, 5⟩, ⟨.int .u8 5, v6, 6⟩, ⟨.int .u8 10, v7, 7⟩, ⟨.int .u8 6, v8, 8⟩, ⟨.int .u8 7, v9, 9⟩, ⟨.int .u8 12, v10, 10⟩] 8 v11 hg (by rfl)
theorem dup12 (W : World) (g : Nat) (v0 v1 v2 v3 v4 v5 v6 v7 v8 v9 v10 v11 v12 : Value) (hg : g = W.heap.size) : (Instr.mapUpdate 96 (.map (some g)) (.int .u8 11) v12).run Tryz.prog (W.alloc (.map #[⟨.int .u8 0, v0, 0⟩, ⟨.int .u8 1, v1, 1⟩, ⟨.int .u8 2, v2, 2⟩, ⟨.int .u8 3, v3, 3⟩, ⟨.int .u8 9, v4, 4⟩, ⟨.int .u8 4, v5, 5⟩, ⟨.int .u8 5, v6, 6⟩, ⟨.int .u8 10, v7, 7⟩, ⟨.int .u8 6, v8, 8⟩, ⟨.int .u8 7, v9, 9⟩, ⟨.int .u8 12, v10, 10⟩, ⟨.int .u8 8, v11, 11⟩] 12)) = .ok () (W.alloc (.map #[⟨.int .u8 0, v0, 0⟩, ⟨.int .u8 1, v1, 1⟩, ⟨.int .u8 2, v2, 2⟩, ⟨.int .u8 3, v3, 3⟩, ⟨.int .u8 9, v4, 4⟩, ⟨.int .u8 4, v5, 5⟩, ⟨.int .u8 5, v6, 6⟩, ⟨.int .u8 10, v7, 7⟩, ⟨.int .u8 6, v8, 8⟩, ⟨.int .u8 7, v9, 9⟩, ⟨.int .u8 12, v10, 10⟩, ⟨.int .u8 8, v11, 11⟩, ⟨.int .u8 11, v12, 12⟩] 13)) :=
  run_update Tryz.underlying96 Tryz.underlying5 W g 12 [⟨.int .u8 0, v0, 0⟩, ⟨.int .u8 1, v1, 1⟩, ⟨.int .u8 2, v2, 2⟩, ⟨.int .u8 3, v3, 3⟩, ⟨.int .u8 9, v4, 4⟩, ⟨.int .u8 4, v5, 5⟩, ⟨.int .u8 5, v6, 6⟩, ⟨.int .u8 10, v7, 7⟩, ⟨.int .u8 6, v8, 8⟩, ⟨.int .u8 7, v9, 9⟩, ⟨.int .u8 12, v10, 10⟩, ⟨.int .u8 8, v11, 11⟩] 11 v12 hg (by rfl)
/-- The table that deeds makes: p and q are the places of size and bits. -/
def deedsT (p q : Nat) : List MapEntry :=
  [⟨.int .u8 0, fv 154 [], 0⟩, ⟨.int .u8 1, fv 155 [], 1⟩, ⟨.int .u8 2, fv 156 [], 2⟩, ⟨.int .u8 3, fv 157 [], 3⟩, ⟨.int .u8 9, fv 158 [], 4⟩, ⟨.int .u8 4, fv 159 [], 5⟩, ⟨.int .u8 5, fv 160 [], 6⟩, ⟨.int .u8 10, fv 161 [], 7⟩, ⟨.int .u8 6, fv 162 [q], 8⟩, ⟨.int .u8 7, fv 163 [q], 9⟩, ⟨.int .u8 12, fv 164 [p, q], 10⟩, ⟨.int .u8 8, fv 166 [], 11⟩, ⟨.int .u8 11, fv 167 [], 12⟩]
def deedsW (wd : Bool) (w : World) : World := ((w.alloc (.cells #[.int .i64 (sz wd)] 3)).alloc (.cells #[.int .u64 (8 * sz wd)] 22)).alloc (.map (deedsT w.heap.size (w.heap.size + 1)).toArray 13)
set_option maxHeartbeats 1000000 in
theorem deeds_any (wd : Bool) (w : World) : Calls Tryz.prog 74 #[.int .i64 (sz wd)] w fun e w' => e = .returned (.map (some (w.heap.size + 2))) ∧ w' = deedsW wd w := by
  have hmf : ∀ (fn : Fn) (first cap : Array Value) (w : World), (Instr.makeFunc fn first cap).run Tryz.prog w = .ok (.func fn first cap) w := fun _ _ _ _ => rfl
  have hmm := @run_makeMap Tryz.prog
  have h0 := dup0
  have h1 := dup1
  have h2 := dup2
  have h3 := dup3
  have h4 := dup4
  have h5 := dup5
  have h6 := dup6
  have h7 := dup7
  have h8 := dup8
  have h9 := dup9
  have h10 := dup10
  have h11 := dup11
  have h12 := dup12
  cases wd
  · rw [show sz false = 4 from rfl]
    go_enter Tryz.func74, Tryz.ntmps74
    go_wp2
    go_ret
    exact ⟨rfl, rfl⟩
  · rw [show sz true = 8 from rfl]
    go_enter Tryz.func74, Tryz.ntmps74
    go_wp2
    go_ret
    exact ⟨rfl, rfl⟩

theorem deeds_heap (wd : Bool) (w : World) : (deedsW wd w).heap[w.heap.size + 2]? = some (.map (deedsT w.heap.size (w.heap.size + 1)).toArray 13) := by
  have := (MapKept.heap_alloc ((w.alloc (.cells #[.int .i64 (sz wd)] 3)).alloc (.cells #[.int .u64 (8 * sz wd)] 22)) (.map (deedsT w.heap.size (w.heap.size + 1)).toArray 13)).1
  simpa [deedsW] using this
theorem deeds_gr (wd : Bool) (w : World) : Gr w (deedsW wd w) := by
  unfold deedsW
  exact ⟨by go_grown, Grown.allocMap (by go_grown) _ _⟩
theorem deeds_size (wd : Bool) (w : World) : (deedsW wd w).cell? ⟨w.heap.size, 0, none⟩ = some (.int .i64 (sz wd)) := by
  rw [deedsW, World.cell?_alloc_past _ _ _ (by simp; omega), World.cell?_alloc_past _ _ _ (by simp), World.cell?_alloc_at _ _ _ _ rfl]; rfl
theorem deeds_bits (wd : Bool) (w : World) : (deedsW wd w).cell? ⟨w.heap.size + 1, 0, none⟩ = some (.int .u64 (8 * sz wd)) := by
  rw [deedsW, World.cell?_alloc_past _ _ _ (by simp), World.cell?_alloc_at _ _ _ _ (by simp)]; rfl
theorem dlook0 (wd : Bool) (w : World) : (Instr.lookup 96 (.map (some (w.heap.size + 2))) (.int .u8 0) true).run Tryz.prog (deedsW wd w) = .ok (.tuple #[fv 154 [], .bool true]) (deedsW wd w) :=
  run_look_yes Tryz.underlying96 Tryz.underlying5 ((deedsT w.heap.size (w.heap.size + 1)).take 0) ((deedsT w.heap.size (w.heap.size + 1)).drop 1) 0 _ (deeds_heap wd w) (by rfl)
theorem dlook1 (wd : Bool) (w : World) : (Instr.lookup 96 (.map (some (w.heap.size + 2))) (.int .u8 1) true).run Tryz.prog (deedsW wd w) = .ok (.tuple #[fv 155 [], .bool true]) (deedsW wd w) :=
  run_look_yes Tryz.underlying96 Tryz.underlying5 ((deedsT w.heap.size (w.heap.size + 1)).take 1) ((deedsT w.heap.size (w.heap.size + 1)).drop 2) 1 _ (deeds_heap wd w) (by rfl)
theorem dlook2 (wd : Bool) (w : World) : (Instr.lookup 96 (.map (some (w.heap.size + 2))) (.int .u8 2) true).run Tryz.prog (deedsW wd w) = .ok (.tuple #[fv 156 [], .bool true]) (deedsW wd w) :=
  run_look_yes Tryz.underlying96 Tryz.underlying5 ((deedsT w.heap.size (w.heap.size + 1)).take 2) ((deedsT w.heap.size (w.heap.size + 1)).drop 3) 2 _ (deeds_heap wd w) (by rfl)
theorem dlook3 (wd : Bool) (w : World) : (Instr.lookup 96 (.map (some (w.heap.size + 2))) (.int .u8 3) true).run Tryz.prog (deedsW wd w) = .ok (.tuple #[fv 157 [], .bool true]) (deedsW wd w) :=
  run_look_yes Tryz.underlying96 Tryz.underlying5 ((deedsT w.heap.size (w.heap.size + 1)).take 3) ((deedsT w.heap.size (w.heap.size + 1)).drop 4) 3 _ (deeds_heap wd w) (by rfl)
theorem dlook9 (wd : Bool) (w : World) : (Instr.lookup 96 (.map (some (w.heap.size + 2))) (.int .u8 9) true).run Tryz.prog (deedsW wd w) = .ok (.tuple #[fv 158 [], .bool true]) (deedsW wd w) :=
  run_look_yes Tryz.underlying96 Tryz.underlying5 ((deedsT w.heap.size (w.heap.size + 1)).take 4) ((deedsT w.heap.size (w.heap.size + 1)).drop 5) 9 _ (deeds_heap wd w) (by rfl)
theorem dlook4 (wd : Bool) (w : World) : (Instr.lookup 96 (.map (some (w.heap.size + 2))) (.int .u8 4) true).run Tryz.prog (deedsW wd w) = .ok (.tuple #[fv 159 [], .bool true]) (deedsW wd w) :=
  run_look_yes Tryz.underlying96 Tryz.underlying5 ((deedsT w.heap.size (w.heap.size + 1)).take 5) ((deedsT w.heap.size (w.heap.size + 1)).drop 6) 4 _ (deeds_heap wd w) (by rfl)
theorem dlook5 (wd : Bool) (w : World) : (Instr.lookup 96 (.map (some (w.heap.size + 2))) (.int .u8 5) true).run Tryz.prog (deedsW wd w) = .ok (.tuple #[fv 160 [], .bool true]) (deedsW wd w) :=
  run_look_yes Tryz.underlying96 Tryz.underlying5 ((deedsT w.heap.size (w.heap.size + 1)).take 6) ((deedsT w.heap.size (w.heap.size + 1)).drop 7) 5 _ (deeds_heap wd w) (by rfl)
theorem dlook10 (wd : Bool) (w : World) : (Instr.lookup 96 (.map (some (w.heap.size + 2))) (.int .u8 10) true).run Tryz.prog (deedsW wd w) = .ok (.tuple #[fv 161 [], .bool true]) (deedsW wd w) :=
  run_look_yes Tryz.underlying96 Tryz.underlying5 ((deedsT w.heap.size (w.heap.size + 1)).take 7) ((deedsT w.heap.size (w.heap.size + 1)).drop 8) 10 _ (deeds_heap wd w) (by rfl)
theorem dlook6 (wd : Bool) (w : World) : (Instr.lookup 96 (.map (some (w.heap.size + 2))) (.int .u8 6) true).run Tryz.prog (deedsW wd w) = .ok (.tuple #[fv 162 [w.heap.size + 1], .bool true]) (deedsW wd w) :=
  run_look_yes Tryz.underlying96 Tryz.underlying5 ((deedsT w.heap.size (w.heap.size + 1)).take 8) ((deedsT w.heap.size (w.heap.size + 1)).drop 9) 6 _ (deeds_heap wd w) (by rfl)
theorem dlook7 (wd : Bool) (w : World) : (Instr.lookup 96 (.map (some (w.heap.size + 2))) (.int .u8 7) true).run Tryz.prog (deedsW wd w) = .ok (.tuple #[fv 163 [w.heap.size + 1], .bool true]) (deedsW wd w) :=
  run_look_yes Tryz.underlying96 Tryz.underlying5 ((deedsT w.heap.size (w.heap.size + 1)).take 9) ((deedsT w.heap.size (w.heap.size + 1)).drop 10) 7 _ (deeds_heap wd w) (by rfl)
theorem dlook12 (wd : Bool) (w : World) : (Instr.lookup 96 (.map (some (w.heap.size + 2))) (.int .u8 12) true).run Tryz.prog (deedsW wd w) = .ok (.tuple #[fv 164 [w.heap.size, w.heap.size + 1], .bool true]) (deedsW wd w) :=
  run_look_yes Tryz.underlying96 Tryz.underlying5 ((deedsT w.heap.size (w.heap.size + 1)).take 10) ((deedsT w.heap.size (w.heap.size + 1)).drop 11) 12 _ (deeds_heap wd w) (by rfl)
theorem dlook8 (wd : Bool) (w : World) : (Instr.lookup 96 (.map (some (w.heap.size + 2))) (.int .u8 8) true).run Tryz.prog (deedsW wd w) = .ok (.tuple #[fv 166 [], .bool true]) (deedsW wd w) :=
  run_look_yes Tryz.underlying96 Tryz.underlying5 ((deedsT w.heap.size (w.heap.size + 1)).take 11) ((deedsT w.heap.size (w.heap.size + 1)).drop 12) 8 _ (deeds_heap wd w) (by rfl)
theorem dlook11 (wd : Bool) (w : World) : (Instr.lookup 96 (.map (some (w.heap.size + 2))) (.int .u8 11) true).run Tryz.prog (deedsW wd w) = .ok (.tuple #[fv 167 [], .bool true]) (deedsW wd w) :=
  run_look_yes Tryz.underlying96 Tryz.underlying5 ((deedsT w.heap.size (w.heap.size + 1)).take 12) ((deedsT w.heap.size (w.heap.size + 1)).drop 13) 11 _ (deeds_heap wd w) (by rfl)
theorem dlook_no (wd : Bool) (w : World) (c : Int) (hc : c ≠ 0 ∧ c ≠ 1 ∧ c ≠ 2 ∧ c ≠ 3 ∧ c ≠ 9 ∧ c ≠ 4 ∧ c ≠ 5 ∧ c ≠ 10 ∧ c ≠ 6 ∧ c ≠ 7 ∧ c ≠ 12 ∧ c ≠ 8 ∧ c ≠ 11) : (Instr.lookup 96 (.map (some (w.heap.size + 2))) (.int .u8 c) true).run Tryz.prog (deedsW wd w) = .ok (.tuple #[.nilFunc, .bool false]) (deedsW wd w) :=
  run_look_no Tryz.underlying96 Tryz.underlying5 _ c .nilFunc (deeds_heap wd w) (by rfl) (by simp [deedsT, keyNe, hc])
end Go.Proofs.YtekenpgagfmgkaaGreat.Wd
end
section
namespace Go.Proofs.YtekenpgagfmgkaaGreat.Wd
open Go.ChangeShapes Go.WideShapes Go.ChangeAt Go.RowKit
set_option linter.unusedVariables false

/-- What a code reckons of two numbers that are cut to the size already, ahead of the last cut. -/
def rawV (wd : Bool) (c a b : Int) : Int :=
  if c = 0 then IntKind.u64.wrap (a + b) else if c = 1 then IntKind.u64.wrap (a - b) else if c = 2 then IntKind.u64.wrap (a * b)
  else if c = 3 then a / b else if c = 9 then a % b
  else if c = 4 then bits .or .u64 a b else if c = 5 then bits .and .u64 a b else if c = 10 then bits .xor .u64 a b
  else if c = 6 then IntKind.u64.wrap (a * 2 ^ (b % (8 * sz wd)).toNat) else if c = 7 then a / 2 ^ (b % (8 * sz wd)).toNat
  else if c = 12 then IntKind.u64.wrap (signV a (sz wd) / 2 ^ (b % (8 * sz wd)).toNat)
  else if c = 8 then IntKind.u64.wrap (-a) else b

theorem mod_wrap {a b : Int} (ha : 0 ≤ a ∧ a ≤ 18446744073709551615) (hb : 0 ≤ b ∧ b ≤ 18446744073709551615) : IntKind.u64.wrap (a - IntKind.u64.wrap (b * (a / b))) = a % b := by
  have h0 : 0 ≤ a / b := Int.ediv_nonneg ha.1 hb.1
  have h1 : 0 ≤ b * (a / b) := Int.mul_nonneg hb.1 h0
  have h3 := Int.mul_ediv_add_emod a b
  have h4 : 0 ≤ a % b ∨ b = 0 := by
    by_cases hz : b = 0
    · exact Or.inr hz
    · exact Or.inl (Int.emod_nonneg a hz)
  have h5 : 0 ≤ a % b := by
    rcases h4 with h4 | h4
    · exact h4
    · rw [h4, Int.emod_zero]; exact ha.1
  rw [IntWalk.u64_in (b * (a / b)) ⟨by omega, by omega⟩, IntWalk.u64_in _ ⟨by omega, by omega⟩]
  omega

theorem c26 (wd : Bool) (a b : Int) (ha : 0 ≤ a ∧ a ≤ 18446744073709551615) (hb : 0 ≤ b ∧ b ≤ 18446744073709551615) (w : World) : Calls Tryz.prog 154 #[.int .u64 a, .int .u64 b] w fun e w' => e = .returned (.int .u64 (rawV wd 0 a b)) ∧ w' = w := by
  go_enter Tryz.func154, Tryz.ntmps154
  go_wp2
  go_ret
  exact ⟨rfl, rfl⟩
theorem c27 (wd : Bool) (a b : Int) (ha : 0 ≤ a ∧ a ≤ 18446744073709551615) (hb : 0 ≤ b ∧ b ≤ 18446744073709551615) (w : World) : Calls Tryz.prog 155 #[.int .u64 a, .int .u64 b] w fun e w' => e = .returned (.int .u64 (rawV wd 1 a b)) ∧ w' = w := by
  go_enter Tryz.func155, Tryz.ntmps155
  go_wp2
  go_ret
  exact ⟨rfl, rfl⟩
theorem c28 (wd : Bool) (a b : Int) (ha : 0 ≤ a ∧ a ≤ 18446744073709551615) (hb : 0 ≤ b ∧ b ≤ 18446744073709551615) (w : World) : Calls Tryz.prog 156 #[.int .u64 a, .int .u64 b] w fun e w' => e = .returned (.int .u64 (rawV wd 2 a b)) ∧ w' = w := by
  go_enter Tryz.func156, Tryz.ntmps156
  go_wp2
  go_ret
  exact ⟨rfl, rfl⟩
theorem c31 (wd : Bool) (a b : Int) (ha : 0 ≤ a ∧ a ≤ 18446744073709551615) (hb : 0 ≤ b ∧ b ≤ 18446744073709551615) (w : World) : Calls Tryz.prog 159 #[.int .u64 a, .int .u64 b] w fun e w' => e = .returned (.int .u64 (rawV wd 4 a b)) ∧ w' = w := by
  go_enter Tryz.func159, Tryz.ntmps159
  go_wp2
  go_ret
  exact ⟨rfl, rfl⟩
theorem c32 (wd : Bool) (a b : Int) (ha : 0 ≤ a ∧ a ≤ 18446744073709551615) (hb : 0 ≤ b ∧ b ≤ 18446744073709551615) (w : World) : Calls Tryz.prog 160 #[.int .u64 a, .int .u64 b] w fun e w' => e = .returned (.int .u64 (rawV wd 5 a b)) ∧ w' = w := by
  go_enter Tryz.func160, Tryz.ntmps160
  go_wp2
  go_ret
  exact ⟨rfl, rfl⟩
theorem c33 (wd : Bool) (a b : Int) (ha : 0 ≤ a ∧ a ≤ 18446744073709551615) (hb : 0 ≤ b ∧ b ≤ 18446744073709551615) (w : World) : Calls Tryz.prog 161 #[.int .u64 a, .int .u64 b] w fun e w' => e = .returned (.int .u64 (rawV wd 10 a b)) ∧ w' = w := by
  go_enter Tryz.func161, Tryz.ntmps161
  go_wp2
  go_ret
  exact ⟨rfl, rfl⟩
theorem c38 (wd : Bool) (a b : Int) (ha : 0 ≤ a ∧ a ≤ 18446744073709551615) (hb : 0 ≤ b ∧ b ≤ 18446744073709551615) (w : World) : Calls Tryz.prog 166 #[.int .u64 a, .int .u64 b] w fun e w' => e = .returned (.int .u64 (rawV wd 8 a b)) ∧ w' = w := by
  go_enter Tryz.func166, Tryz.ntmps166
  go_wp2
  go_ret
  exact ⟨rfl, rfl⟩
theorem c39 (wd : Bool) (a b : Int) (ha : 0 ≤ a ∧ a ≤ 18446744073709551615) (hb : 0 ≤ b ∧ b ≤ 18446744073709551615) (w : World) : Calls Tryz.prog 167 #[.int .u64 a, .int .u64 b] w fun e w' => e = .returned (.int .u64 (rawV wd 11 a b)) ∧ w' = w := by
  go_enter Tryz.func167, Tryz.ntmps167
  go_wp2
  go_ret
  exact ⟨rfl, rfl⟩
theorem c29 (wd : Bool) (a b : Int) (ha : 0 ≤ a ∧ a ≤ 18446744073709551615) (hb : 0 ≤ b ∧ b ≤ 18446744073709551615) (w : World) : Calls Tryz.prog 157 #[.int .u64 a, .int .u64 b] w fun e w' => e = .returned (.int .u64 (rawV wd 3 a b)) ∧ w' = w := by
  by_cases hz : b = 0
  · subst hz
    go_enter Tryz.func157, Tryz.ntmps157
    go_wp2
    go_ret
    exact ⟨ret_int (by rw [show rawV wd 3 a 0 = a / 0 from rfl, Int.ediv_zero]), rfl⟩
  · have hz' : (b == 0) = false := by simp [hz]
    go_enter Tryz.func157, Tryz.ntmps157
    go_wp2
    go_ret
    exact ⟨rfl, rfl⟩
theorem c30 (wd : Bool) (a b : Int) (ha : 0 ≤ a ∧ a ≤ 18446744073709551615) (hb : 0 ≤ b ∧ b ≤ 18446744073709551615) (w : World) : Calls Tryz.prog 158 #[.int .u64 a, .int .u64 b] w fun e w' => e = .returned (.int .u64 (rawV wd 9 a b)) ∧ w' = w := by
  have hm := mod_wrap ha hb
  go_enter Tryz.func158, Tryz.ntmps158
  go_wp2_with (go_at_call 157; refine (c29 wd a b ha hb _).mono ?_; rintro e w' ⟨rfl, rfl⟩)
  go_ret
  exact ⟨ret_int hm, rfl⟩
theorem c34 (wd : Bool) (a b : Int) (q : Nat) (ha : 0 ≤ a ∧ a ≤ 18446744073709551615) (hb : 0 ≤ b ∧ b ≤ 18446744073709551615) (w : World) (hq : w.cell? ⟨q, 0, none⟩ = some (.int .u64 (8 * sz wd))) : Calls Tryz.prog 162 #[.int .u64 a, .int .u64 b, .pointer (some ⟨q, 0, none⟩)] w fun e w' => e = .returned (.int .u64 (rawV wd 6 a b)) ∧ w' = w := by
  cases wd
  · rw [show 8 * sz false = 32 from rfl] at hq
    go_enter Tryz.func162, Tryz.ntmps162
    go_wp2
    go_ret
    exact ⟨rfl, rfl⟩
  · rw [show 8 * sz true = 64 from rfl] at hq
    go_enter Tryz.func162, Tryz.ntmps162
    go_wp2
    go_ret
    exact ⟨rfl, rfl⟩
theorem c35 (wd : Bool) (a b : Int) (q : Nat) (ha : 0 ≤ a ∧ a ≤ 18446744073709551615) (hb : 0 ≤ b ∧ b ≤ 18446744073709551615) (w : World) (hq : w.cell? ⟨q, 0, none⟩ = some (.int .u64 (8 * sz wd))) : Calls Tryz.prog 163 #[.int .u64 a, .int .u64 b, .pointer (some ⟨q, 0, none⟩)] w fun e w' => e = .returned (.int .u64 (rawV wd 7 a b)) ∧ w' = w := by
  cases wd
  · rw [show 8 * sz false = 32 from rfl] at hq
    go_enter Tryz.func163, Tryz.ntmps163
    go_wp2
    go_ret
    exact ⟨rfl, rfl⟩
  · rw [show 8 * sz true = 64 from rfl] at hq
    go_enter Tryz.func163, Tryz.ntmps163
    go_wp2
    go_ret
    exact ⟨rfl, rfl⟩

theorem gr_drewN (w : World) : ∀ n, Gr w (w.drewN n)
  | 0 => Gr.refl w
  | n + 1 => (gr_drewN w n).trans ⟨(Below.refl _ _).drew, (Grown.refl _).drew⟩

set_option maxHeartbeats 1000000 in
theorem c36 (wd : Bool) (a b : Int) (p q : Nat) (ha : 0 ≤ a ∧ a ≤ 18446744073709551615) (hb : 0 ≤ b ∧ b ≤ 18446744073709551615) (w : World) (hp : w.cell? ⟨p, 0, none⟩ = some (.int .i64 (sz wd))) (hq : w.cell? ⟨q, 0, none⟩ = some (.int .u64 (8 * sz wd))) : Calls Tryz.prog 164 #[.int .u64 a, .int .u64 b, .pointer (some ⟨p, 0, none⟩), .pointer (some ⟨q, 0, none⟩)] w fun e w' => e = .returned (.int .u64 (rawV wd 12 a b)) ∧ ∃ n, w' = w.drewN n := by
  cases wd
  · rw [show 8 * sz false = 32 from rfl] at hq
    rw [show sz false = 4 from rfl] at hp
    have hs : -9223372036854775808 ≤ signV a 4 ∧ signV a 4 ≤ 9223372036854775807 := by rw [signV4]; split <;> omega
    go_enter Tryz.func164, Tryz.ntmps164
    go_wp2
    go_quiet (first | (go_at_call 165; exact Calls.quiet_of_same (sign_any a 4 ha.1 ha.2 _)))
    go_wp2
    go_ret
    exact ⟨rfl, _, rfl⟩
  · rw [show 8 * sz true = 64 from rfl] at hq
    rw [show sz true = 8 from rfl] at hp
    have hs : -9223372036854775808 ≤ signV a 8 ∧ signV a 8 ≤ 9223372036854775807 := by rw [signV8]; split <;> omega
    go_enter Tryz.func164, Tryz.ntmps164
    go_wp2
    go_quiet (first | (go_at_call 165; exact Calls.quiet_of_same (sign_any a 8 ha.1 ha.2 _)))
    go_wp2
    go_ret
    exact ⟨rfl, _, rfl⟩
end Go.Proofs.YtekenpgagfmgkaaGreat.Wd
end
section
namespace Go.Proofs.YtekenpgagfmgkaaGreat.Wd
open Go.ChangeShapes Go.WideShapes Go.ChangeAt Go.RowKit
set_option linter.unusedVariables false

/-- What a code asks of two numbers that are cut to the size already. -/
def askV (wd : Bool) (c a b : Int) : Bool :=
  if c = 0 then true else if c = 1 then a == b else if c = 5 then a != b else if c = 4 then bits .and .u64 a b != 0
  else if c = 2 then decide (b < a) else if c = 3 then !decide (a < b) else if c = 10 then decide (a < b) else if c = 11 then !decide (b < a)
  else if c = 6 then decide (signV b (sz wd) < signV a (sz wd)) else if c = 7 then !decide (signV a (sz wd) < signV b (sz wd))
  else if c = 12 then decide (signV a (sz wd) < signV b (sz wd)) else if c = 13 then !decide (signV b (sz wd) < signV a (sz wd)) else false

end Go.Proofs.YtekenpgagfmgkaaGreat.Wd
end
section
namespace Go.Proofs.YtekenpgagfmgkaaGreat.Wd
open Go.ChangeShapes Go.WideShapes Go.ChangeAt Go.RowKit
set_option linter.unusedVariables false

theorem low_le (wd : Bool) (x : Int) (h0 : 0 ≤ x) (h1 : x ≤ 18446744073709551615) : lowV x (sz wd) ≤ x := by
  cases wd
  · rw [show sz false = 4 from rfl, lowV4]; omega
  · rw [show sz true = 8 from rfl, lowV8]; omega
theorem low_bd (wd : Bool) (x : Int) : 0 ≤ lowV x (sz wd) ∧ lowV x (sz wd) ≤ 18446744073709551615 := by
  cases wd
  · rw [show sz false = 4 from rfl, lowV4]; omega
  · rw [show sz true = 8 from rfl, lowV8]; omega
theorem wrap_bd (x : Int) : 0 ≤ IntKind.u64.wrap x ∧ IntKind.u64.wrap x ≤ 18446744073709551615 := by
  rw [IntKind.wrap_u64]; omega
theorem or_nat (a b : Int) (ha : 0 ≤ a ∧ a ≤ 18446744073709551615) (hb : 0 ≤ b ∧ b ≤ 18446744073709551615) : bits .or .u64 a b = ((a.toNat ||| b.toNat : Nat) : Int) := by
  obtain ⟨n, rfl⟩ := Int.eq_ofNat_of_zero_le ha.1
  obtain ⟨m, rfl⟩ := Int.eq_ofNat_of_zero_le hb.1
  exact Go.u64_or_nat n m (by omega) (by omega)
theorem and_nat (a b : Int) (ha : 0 ≤ a ∧ a ≤ 18446744073709551615) (hb : 0 ≤ b ∧ b ≤ 18446744073709551615) : bits .and .u64 a b = ((a.toNat &&& b.toNat : Nat) : Int) := by
  obtain ⟨n, rfl⟩ := Int.eq_ofNat_of_zero_le ha.1
  obtain ⟨m, rfl⟩ := Int.eq_ofNat_of_zero_le hb.1
  exact Go.u64_and_nat n m (by omega) (by omega)
theorem xor_nat (a b : Int) (ha : 0 ≤ a ∧ a ≤ 18446744073709551615) (hb : 0 ≤ b ∧ b ≤ 18446744073709551615) : bits .xor .u64 a b = ((a.toNat ^^^ b.toNat : Nat) : Int) := by
  obtain ⟨n, rfl⟩ := Int.eq_ofNat_of_zero_le ha.1
  obtain ⟨m, rfl⟩ := Int.eq_ofNat_of_zero_le hb.1
  exact Go.u64_xor_nat n m (by omega) (by omega)

def inU (x : Int) : Prop := 0 ≤ x ∧ x ≤ 18446744073709551615
theorem ite_inU {p : Prop} [Decidable p] {x y : Int} (h : inU x) (k : inU y) : inU (if p then x else y) := by
  by_cases hp : p
  · rw [if_pos hp]; exact h
  · rw [if_neg hp]; exact k
theorem raw_bd (wd : Bool) (c a b : Int) (ha : 0 ≤ a ∧ a ≤ 18446744073709551615) (hb : 0 ≤ b ∧ b ≤ 18446744073709551615) : 0 ≤ rawV wd c a b ∧ rawV wd c a b ≤ 18446744073709551615 := by
  have n1 : a.toNat < 2 ^ 64 := by omega
  have n2 : b.toNat < 2 ^ 64 := by omega
  have h1 := Nat.or_lt_two_pow n1 n2
  have h2 : a.toNat &&& b.toNat < 2 ^ 64 := Nat.and_lt_two_pow _ n2
  have h3 := Nat.xor_lt_two_pow n1 n2
  have h4 : ∀ d : Int, 0 ≤ d → 0 ≤ a / d ∧ a / d ≤ 18446744073709551615 := fun d hd =>
    ⟨Int.ediv_nonneg ha.1 hd, Int.le_trans (Int.ediv_le_self _ ha.1) ha.2⟩
  have h5 : 0 ≤ a % b ∧ a % b ≤ 18446744073709551615 := by
    by_cases hz : b = 0
    · rw [hz, Int.emod_zero]; exact ha
    · have := Int.emod_nonneg a hz
      have := Int.emod_lt_of_pos a (by omega : 0 < b)
      omega
  have h6 : ∀ n : Nat, (0 : Int) ≤ 2 ^ n := fun n => Int.pow_nonneg (by omega)
  have h7 : inU (bits .or .u64 a b) := by rw [or_nat a b ha hb]; exact ⟨by omega, by omega⟩
  have h8 : inU (bits .and .u64 a b) := by rw [and_nat a b ha hb]; exact ⟨by omega, by omega⟩
  have h9 : inU (bits .xor .u64 a b) := by rw [xor_nat a b ha hb]; exact ⟨by omega, by omega⟩
  exact ite_inU (wrap_bd _) (ite_inU (wrap_bd _) (ite_inU (wrap_bd _) (ite_inU (h4 _ hb.1) (ite_inU h5 (ite_inU h7 (ite_inU h8 (ite_inU h9 (ite_inU (wrap_bd _) (ite_inU (h4 _ (h6 _)) (ite_inU (wrap_bd _) (ite_inU (wrap_bd _) hb)))))))))))

def doesV (wd : Bool) (c a b : Int) : Int := if c ≤ 12 then lowV (rawV wd c (lowV a (sz wd)) (lowV b (sz wd))) (sz wd) else 0
def errD (c : Int) : Int := if c ≤ 12 then 0 else 20
def asks (c : Int) : Bool := decide (c ≤ 13 ∧ c ≠ 8 ∧ c ≠ 9)
def asksV (wd : Bool) (c a b : Int) : Bool := if asks c then askV wd c (lowV a (sz wd)) (lowV b (sz wd)) else false
def errA (c : Int) : Int := if asks c then 0 else 20

theorem u64_bd (wd : Bool) (c a b : Int) : 0 ≤ doesV wd c a b ∧ doesV wd c a b ≤ 18446744073709551615 := by
  unfold doesV
  split
  · exact low_bd wd _
  · omega

set_option maxHeartbeats 1000000 in
theorem does0 (wd : Bool) (a b : Int) (ha : 0 ≤ a ∧ a ≤ 18446744073709551615) (hb : 0 ≤ b ∧ b ≤ 18446744073709551615) (w : World) : Calls Tryz.prog 29 #[.int .u8 0, .bool wd, .int .u64 a, .int .u64 b] w fun e w' => e = .returned (.tuple #[.int .u64 (doesV wd 0 a b), .int .i64 0]) ∧ Gr w w' := by
  have hl := dlook0 wd w
  have x0 := low_bd wd a
  have y0 := low_bd wd b
  obtain ⟨r0, r1⟩ := raw_bd wd 0 _ _ x0 y0
  obtain ⟨a0, a1⟩ := ha
  obtain ⟨b0, b1⟩ := hb
  go_enter Tryz.func29, Tryz.ntmps29
  go_wp2_with (first
    | (go_at_call 73; refine (sizeOf_any wd _).mono ?_; rintro e w' ⟨rfl, rfl⟩)
    | (go_at_call 74; refine (deeds_any wd _).mono ?_; rintro e w' ⟨rfl, rfl⟩)
    | (go_at_call 75; refine (low_any _ _ (by assumption) (by assumption) _).mono ?_; rintro e w' ⟨rfl, rfl⟩)
    | (go_at_call 154; refine (c26 wd _ _ x0 y0 _).mono ?_; rintro e w' ⟨rfl, rfl⟩))
  go_ret2
  exact ⟨rfl, deeds_gr wd _⟩
set_option maxHeartbeats 1000000 in
theorem does1 (wd : Bool) (a b : Int) (ha : 0 ≤ a ∧ a ≤ 18446744073709551615) (hb : 0 ≤ b ∧ b ≤ 18446744073709551615) (w : World) : Calls Tryz.prog 29 #[.int .u8 1, .bool wd, .int .u64 a, .int .u64 b] w fun e w' => e = .returned (.tuple #[.int .u64 (doesV wd 1 a b), .int .i64 0]) ∧ Gr w w' := by
  have hl := dlook1 wd w
  have x0 := low_bd wd a
  have y0 := low_bd wd b
  obtain ⟨r0, r1⟩ := raw_bd wd 1 _ _ x0 y0
  obtain ⟨a0, a1⟩ := ha
  obtain ⟨b0, b1⟩ := hb
  go_enter Tryz.func29, Tryz.ntmps29
  go_wp2_with (first
    | (go_at_call 73; refine (sizeOf_any wd _).mono ?_; rintro e w' ⟨rfl, rfl⟩)
    | (go_at_call 74; refine (deeds_any wd _).mono ?_; rintro e w' ⟨rfl, rfl⟩)
    | (go_at_call 75; refine (low_any _ _ (by assumption) (by assumption) _).mono ?_; rintro e w' ⟨rfl, rfl⟩)
    | (go_at_call 155; refine (c27 wd _ _ x0 y0 _).mono ?_; rintro e w' ⟨rfl, rfl⟩))
  go_ret2
  exact ⟨rfl, deeds_gr wd _⟩
set_option maxHeartbeats 1000000 in
theorem does2 (wd : Bool) (a b : Int) (ha : 0 ≤ a ∧ a ≤ 18446744073709551615) (hb : 0 ≤ b ∧ b ≤ 18446744073709551615) (w : World) : Calls Tryz.prog 29 #[.int .u8 2, .bool wd, .int .u64 a, .int .u64 b] w fun e w' => e = .returned (.tuple #[.int .u64 (doesV wd 2 a b), .int .i64 0]) ∧ Gr w w' := by
  have hl := dlook2 wd w
  have x0 := low_bd wd a
  have y0 := low_bd wd b
  obtain ⟨r0, r1⟩ := raw_bd wd 2 _ _ x0 y0
  obtain ⟨a0, a1⟩ := ha
  obtain ⟨b0, b1⟩ := hb
  go_enter Tryz.func29, Tryz.ntmps29
  go_wp2_with (first
    | (go_at_call 73; refine (sizeOf_any wd _).mono ?_; rintro e w' ⟨rfl, rfl⟩)
    | (go_at_call 74; refine (deeds_any wd _).mono ?_; rintro e w' ⟨rfl, rfl⟩)
    | (go_at_call 75; refine (low_any _ _ (by assumption) (by assumption) _).mono ?_; rintro e w' ⟨rfl, rfl⟩)
    | (go_at_call 156; refine (c28 wd _ _ x0 y0 _).mono ?_; rintro e w' ⟨rfl, rfl⟩))
  go_ret2
  exact ⟨rfl, deeds_gr wd _⟩
set_option maxHeartbeats 1000000 in
theorem does3 (wd : Bool) (a b : Int) (ha : 0 ≤ a ∧ a ≤ 18446744073709551615) (hb : 0 ≤ b ∧ b ≤ 18446744073709551615) (w : World) : Calls Tryz.prog 29 #[.int .u8 3, .bool wd, .int .u64 a, .int .u64 b] w fun e w' => e = .returned (.tuple #[.int .u64 (doesV wd 3 a b), .int .i64 0]) ∧ Gr w w' := by
  have hl := dlook3 wd w
  have x0 := low_bd wd a
  have y0 := low_bd wd b
  obtain ⟨r0, r1⟩ := raw_bd wd 3 _ _ x0 y0
  obtain ⟨a0, a1⟩ := ha
  obtain ⟨b0, b1⟩ := hb
  go_enter Tryz.func29, Tryz.ntmps29
  go_wp2_with (first
    | (go_at_call 73; refine (sizeOf_any wd _).mono ?_; rintro e w' ⟨rfl, rfl⟩)
    | (go_at_call 74; refine (deeds_any wd _).mono ?_; rintro e w' ⟨rfl, rfl⟩)
    | (go_at_call 75; refine (low_any _ _ (by assumption) (by assumption) _).mono ?_; rintro e w' ⟨rfl, rfl⟩)
    | (go_at_call 157; refine (c29 wd _ _ x0 y0 _).mono ?_; rintro e w' ⟨rfl, rfl⟩))
  go_ret2
  exact ⟨rfl, deeds_gr wd _⟩
set_option maxHeartbeats 1000000 in
theorem does4 (wd : Bool) (a b : Int) (ha : 0 ≤ a ∧ a ≤ 18446744073709551615) (hb : 0 ≤ b ∧ b ≤ 18446744073709551615) (w : World) : Calls Tryz.prog 29 #[.int .u8 4, .bool wd, .int .u64 a, .int .u64 b] w fun e w' => e = .returned (.tuple #[.int .u64 (doesV wd 4 a b), .int .i64 0]) ∧ Gr w w' := by
  have hl := dlook4 wd w
  have x0 := low_bd wd a
  have y0 := low_bd wd b
  obtain ⟨r0, r1⟩ := raw_bd wd 4 _ _ x0 y0
  obtain ⟨a0, a1⟩ := ha
  obtain ⟨b0, b1⟩ := hb
  go_enter Tryz.func29, Tryz.ntmps29
  go_wp2_with (first
    | (go_at_call 73; refine (sizeOf_any wd _).mono ?_; rintro e w' ⟨rfl, rfl⟩)
    | (go_at_call 74; refine (deeds_any wd _).mono ?_; rintro e w' ⟨rfl, rfl⟩)
    | (go_at_call 75; refine (low_any _ _ (by assumption) (by assumption) _).mono ?_; rintro e w' ⟨rfl, rfl⟩)
    | (go_at_call 159; refine (c31 wd _ _ x0 y0 _).mono ?_; rintro e w' ⟨rfl, rfl⟩))
  go_ret2
  exact ⟨rfl, deeds_gr wd _⟩
set_option maxHeartbeats 1000000 in
theorem does5 (wd : Bool) (a b : Int) (ha : 0 ≤ a ∧ a ≤ 18446744073709551615) (hb : 0 ≤ b ∧ b ≤ 18446744073709551615) (w : World) : Calls Tryz.prog 29 #[.int .u8 5, .bool wd, .int .u64 a, .int .u64 b] w fun e w' => e = .returned (.tuple #[.int .u64 (doesV wd 5 a b), .int .i64 0]) ∧ Gr w w' := by
  have hl := dlook5 wd w
  have x0 := low_bd wd a
  have y0 := low_bd wd b
  obtain ⟨r0, r1⟩ := raw_bd wd 5 _ _ x0 y0
  obtain ⟨a0, a1⟩ := ha
  obtain ⟨b0, b1⟩ := hb
  go_enter Tryz.func29, Tryz.ntmps29
  go_wp2_with (first
    | (go_at_call 73; refine (sizeOf_any wd _).mono ?_; rintro e w' ⟨rfl, rfl⟩)
    | (go_at_call 74; refine (deeds_any wd _).mono ?_; rintro e w' ⟨rfl, rfl⟩)
    | (go_at_call 75; refine (low_any _ _ (by assumption) (by assumption) _).mono ?_; rintro e w' ⟨rfl, rfl⟩)
    | (go_at_call 160; refine (c32 wd _ _ x0 y0 _).mono ?_; rintro e w' ⟨rfl, rfl⟩))
  go_ret2
  exact ⟨rfl, deeds_gr wd _⟩
set_option maxHeartbeats 1000000 in
theorem does6 (wd : Bool) (a b : Int) (ha : 0 ≤ a ∧ a ≤ 18446744073709551615) (hb : 0 ≤ b ∧ b ≤ 18446744073709551615) (w : World) : Calls Tryz.prog 29 #[.int .u8 6, .bool wd, .int .u64 a, .int .u64 b] w fun e w' => e = .returned (.tuple #[.int .u64 (doesV wd 6 a b), .int .i64 0]) ∧ Gr w w' := by
  have hl := dlook6 wd w
  have x0 := low_bd wd a
  have y0 := low_bd wd b
  obtain ⟨r0, r1⟩ := raw_bd wd 6 _ _ x0 y0
  obtain ⟨a0, a1⟩ := ha
  obtain ⟨b0, b1⟩ := hb
  go_enter Tryz.func29, Tryz.ntmps29
  go_wp2_with (first
    | (go_at_call 73; refine (sizeOf_any wd _).mono ?_; rintro e w' ⟨rfl, rfl⟩)
    | (go_at_call 74; refine (deeds_any wd _).mono ?_; rintro e w' ⟨rfl, rfl⟩)
    | (go_at_call 75; refine (low_any _ _ (by assumption) (by assumption) _).mono ?_; rintro e w' ⟨rfl, rfl⟩)
    | (go_at_call 162; refine (c34 wd _ _ _ x0 y0 _ (deeds_bits wd _)).mono ?_; rintro e w' ⟨rfl, rfl⟩))
  go_ret2
  exact ⟨rfl, deeds_gr wd _⟩
set_option maxHeartbeats 1000000 in
theorem does7 (wd : Bool) (a b : Int) (ha : 0 ≤ a ∧ a ≤ 18446744073709551615) (hb : 0 ≤ b ∧ b ≤ 18446744073709551615) (w : World) : Calls Tryz.prog 29 #[.int .u8 7, .bool wd, .int .u64 a, .int .u64 b] w fun e w' => e = .returned (.tuple #[.int .u64 (doesV wd 7 a b), .int .i64 0]) ∧ Gr w w' := by
  have hl := dlook7 wd w
  have x0 := low_bd wd a
  have y0 := low_bd wd b
  obtain ⟨r0, r1⟩ := raw_bd wd 7 _ _ x0 y0
  obtain ⟨a0, a1⟩ := ha
  obtain ⟨b0, b1⟩ := hb
  go_enter Tryz.func29, Tryz.ntmps29
  go_wp2_with (first
    | (go_at_call 73; refine (sizeOf_any wd _).mono ?_; rintro e w' ⟨rfl, rfl⟩)
    | (go_at_call 74; refine (deeds_any wd _).mono ?_; rintro e w' ⟨rfl, rfl⟩)
    | (go_at_call 75; refine (low_any _ _ (by assumption) (by assumption) _).mono ?_; rintro e w' ⟨rfl, rfl⟩)
    | (go_at_call 163; refine (c35 wd _ _ _ x0 y0 _ (deeds_bits wd _)).mono ?_; rintro e w' ⟨rfl, rfl⟩))
  go_ret2
  exact ⟨rfl, deeds_gr wd _⟩
set_option maxHeartbeats 1000000 in
theorem does8 (wd : Bool) (a b : Int) (ha : 0 ≤ a ∧ a ≤ 18446744073709551615) (hb : 0 ≤ b ∧ b ≤ 18446744073709551615) (w : World) : Calls Tryz.prog 29 #[.int .u8 8, .bool wd, .int .u64 a, .int .u64 b] w fun e w' => e = .returned (.tuple #[.int .u64 (doesV wd 8 a b), .int .i64 0]) ∧ Gr w w' := by
  have hl := dlook8 wd w
  have x0 := low_bd wd a
  have y0 := low_bd wd b
  obtain ⟨r0, r1⟩ := raw_bd wd 8 _ _ x0 y0
  obtain ⟨a0, a1⟩ := ha
  obtain ⟨b0, b1⟩ := hb
  go_enter Tryz.func29, Tryz.ntmps29
  go_wp2_with (first
    | (go_at_call 73; refine (sizeOf_any wd _).mono ?_; rintro e w' ⟨rfl, rfl⟩)
    | (go_at_call 74; refine (deeds_any wd _).mono ?_; rintro e w' ⟨rfl, rfl⟩)
    | (go_at_call 75; refine (low_any _ _ (by assumption) (by assumption) _).mono ?_; rintro e w' ⟨rfl, rfl⟩)
    | (go_at_call 166; refine (c38 wd _ _ x0 y0 _).mono ?_; rintro e w' ⟨rfl, rfl⟩))
  go_ret2
  exact ⟨rfl, deeds_gr wd _⟩
set_option maxHeartbeats 1000000 in
theorem does9 (wd : Bool) (a b : Int) (ha : 0 ≤ a ∧ a ≤ 18446744073709551615) (hb : 0 ≤ b ∧ b ≤ 18446744073709551615) (w : World) : Calls Tryz.prog 29 #[.int .u8 9, .bool wd, .int .u64 a, .int .u64 b] w fun e w' => e = .returned (.tuple #[.int .u64 (doesV wd 9 a b), .int .i64 0]) ∧ Gr w w' := by
  have hl := dlook9 wd w
  have x0 := low_bd wd a
  have y0 := low_bd wd b
  obtain ⟨r0, r1⟩ := raw_bd wd 9 _ _ x0 y0
  obtain ⟨a0, a1⟩ := ha
  obtain ⟨b0, b1⟩ := hb
  go_enter Tryz.func29, Tryz.ntmps29
  go_wp2_with (first
    | (go_at_call 73; refine (sizeOf_any wd _).mono ?_; rintro e w' ⟨rfl, rfl⟩)
    | (go_at_call 74; refine (deeds_any wd _).mono ?_; rintro e w' ⟨rfl, rfl⟩)
    | (go_at_call 75; refine (low_any _ _ (by assumption) (by assumption) _).mono ?_; rintro e w' ⟨rfl, rfl⟩)
    | (go_at_call 158; refine (c30 wd _ _ x0 y0 _).mono ?_; rintro e w' ⟨rfl, rfl⟩))
  go_ret2
  exact ⟨rfl, deeds_gr wd _⟩
set_option maxHeartbeats 1000000 in
theorem does10 (wd : Bool) (a b : Int) (ha : 0 ≤ a ∧ a ≤ 18446744073709551615) (hb : 0 ≤ b ∧ b ≤ 18446744073709551615) (w : World) : Calls Tryz.prog 29 #[.int .u8 10, .bool wd, .int .u64 a, .int .u64 b] w fun e w' => e = .returned (.tuple #[.int .u64 (doesV wd 10 a b), .int .i64 0]) ∧ Gr w w' := by
  have hl := dlook10 wd w
  have x0 := low_bd wd a
  have y0 := low_bd wd b
  obtain ⟨r0, r1⟩ := raw_bd wd 10 _ _ x0 y0
  obtain ⟨a0, a1⟩ := ha
  obtain ⟨b0, b1⟩ := hb
  go_enter Tryz.func29, Tryz.ntmps29
  go_wp2_with (first
    | (go_at_call 73; refine (sizeOf_any wd _).mono ?_; rintro e w' ⟨rfl, rfl⟩)
    | (go_at_call 74; refine (deeds_any wd _).mono ?_; rintro e w' ⟨rfl, rfl⟩)
    | (go_at_call 75; refine (low_any _ _ (by assumption) (by assumption) _).mono ?_; rintro e w' ⟨rfl, rfl⟩)
    | (go_at_call 161; refine (c33 wd _ _ x0 y0 _).mono ?_; rintro e w' ⟨rfl, rfl⟩))
  go_ret2
  exact ⟨rfl, deeds_gr wd _⟩
set_option maxHeartbeats 1000000 in
theorem does11 (wd : Bool) (a b : Int) (ha : 0 ≤ a ∧ a ≤ 18446744073709551615) (hb : 0 ≤ b ∧ b ≤ 18446744073709551615) (w : World) : Calls Tryz.prog 29 #[.int .u8 11, .bool wd, .int .u64 a, .int .u64 b] w fun e w' => e = .returned (.tuple #[.int .u64 (doesV wd 11 a b), .int .i64 0]) ∧ Gr w w' := by
  have hl := dlook11 wd w
  have x0 := low_bd wd a
  have y0 := low_bd wd b
  obtain ⟨r0, r1⟩ := raw_bd wd 11 _ _ x0 y0
  obtain ⟨a0, a1⟩ := ha
  obtain ⟨b0, b1⟩ := hb
  go_enter Tryz.func29, Tryz.ntmps29
  go_wp2_with (first
    | (go_at_call 73; refine (sizeOf_any wd _).mono ?_; rintro e w' ⟨rfl, rfl⟩)
    | (go_at_call 74; refine (deeds_any wd _).mono ?_; rintro e w' ⟨rfl, rfl⟩)
    | (go_at_call 75; refine (low_any _ _ (by assumption) (by assumption) _).mono ?_; rintro e w' ⟨rfl, rfl⟩)
    | (go_at_call 167; refine (c39 wd _ _ x0 y0 _).mono ?_; rintro e w' ⟨rfl, rfl⟩))
  go_ret2
  exact ⟨rfl, deeds_gr wd _⟩
set_option maxHeartbeats 1000000 in
theorem does12 (wd : Bool) (a b : Int) (ha : 0 ≤ a ∧ a ≤ 18446744073709551615) (hb : 0 ≤ b ∧ b ≤ 18446744073709551615) (w : World) : Calls Tryz.prog 29 #[.int .u8 12, .bool wd, .int .u64 a, .int .u64 b] w fun e w' => e = .returned (.tuple #[.int .u64 (doesV wd 12 a b), .int .i64 0]) ∧ Gr w w' := by
  have hl := dlook12 wd w
  have x0 := low_bd wd a
  have y0 := low_bd wd b
  obtain ⟨r0, r1⟩ := raw_bd wd 12 _ _ x0 y0
  obtain ⟨a0, a1⟩ := ha
  obtain ⟨b0, b1⟩ := hb
  go_enter Tryz.func29, Tryz.ntmps29
  go_wp2_with (first
    | (go_at_call 73; refine (sizeOf_any wd _).mono ?_; rintro e w' ⟨rfl, rfl⟩)
    | (go_at_call 74; refine (deeds_any wd _).mono ?_; rintro e w' ⟨rfl, rfl⟩)
    | (go_at_call 75; refine (low_any _ _ (by assumption) (by assumption) _).mono ?_; rintro e w' ⟨rfl, rfl⟩)
    | (go_at_call 164; refine (c36 wd _ _ _ _ x0 y0 _ (deeds_size wd _) (deeds_bits wd _)).mono ?_; rintro e w' ⟨rfl, nd, rfl⟩))
  go_ret2
  exact ⟨rfl, (deeds_gr wd _).trans (gr_drewN _ _)⟩

set_option maxHeartbeats 1000000 in
theorem does_no (wd : Bool) (c a b : Int) (hc : 13 ≤ c) (w : World) : Calls Tryz.prog 29 #[.int .u8 c, .bool wd, .int .u64 a, .int .u64 b] w fun e w' => e = .returned (.tuple #[.int .u64 0, .int .i64 20]) ∧ Gr w w' := by
  have hl := dlook_no wd w c (by omega)
  go_enter Tryz.func29, Tryz.ntmps29
  go_wp2_with (first
    | (go_at_call 73; refine (sizeOf_any wd _).mono ?_; rintro e w' ⟨rfl, rfl⟩)
    | (go_at_call 74; refine (deeds_any wd _).mono ?_; rintro e w' ⟨rfl, rfl⟩))
  go_ret2
  exact ⟨rfl, deeds_gr wd _⟩

theorem does_any (wd : Bool) (c a b : Int) (hc : 0 ≤ c) (ha : 0 ≤ a ∧ a ≤ 18446744073709551615) (hb : 0 ≤ b ∧ b ≤ 18446744073709551615) (w : World) : Calls Tryz.prog 29 #[.int .u8 c, .bool wd, .int .u64 a, .int .u64 b] w fun e w' => e = .returned (.tuple #[.int .u64 (doesV wd c a b), .int .i64 (errD c)]) ∧ Gr w w' := by
  by_cases h : 13 ≤ c
  · rw [doesV, if_neg (by omega), errD, if_neg (by omega)]
    exact does_no wd c a b h w
  · rcases (by omega : c = 0 ∨ c = 1 ∨ c = 2 ∨ c = 3 ∨ c = 4 ∨ c = 5 ∨ c = 6 ∨ c = 7 ∨ c = 8 ∨ c = 9 ∨ c = 10 ∨ c = 11 ∨ c = 12) with rfl | rfl | rfl | rfl | rfl | rfl | rfl | rfl | rfl | rfl | rfl | rfl | rfl
    · exact does0 wd a b ha hb w
    · exact does1 wd a b ha hb w
    · exact does2 wd a b ha hb w
    · exact does3 wd a b ha hb w
    · exact does4 wd a b ha hb w
    · exact does5 wd a b ha hb w
    · exact does6 wd a b ha hb w
    · exact does7 wd a b ha hb w
    · exact does8 wd a b ha hb w
    · exact does9 wd a b ha hb w
    · exact does10 wd a b ha hb w
    · exact does11 wd a b ha hb w
    · exact does12 wd a b ha hb w
theorem cell_drewN (w : World) (x : Addr) : ∀ n, (w.drewN n).cell? x = w.cell? x
  | 0 => rfl
  | n + 1 => cell_drewN w x n
end Go.Proofs.YtekenpgagfmgkaaGreat.Wd
end
