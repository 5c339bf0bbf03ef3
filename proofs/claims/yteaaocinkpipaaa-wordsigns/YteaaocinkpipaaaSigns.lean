/- Towards the statements of package word (layer 1): when two numbers have the same bytes; Low, Sign and the signed number as an unsigned one, at each size. -/
import Derived.Test.YteaaocinkpipaaaParts
import Derived.BigQuiet
namespace Go.Proofs.Yteaaocinkpipaaa
open Go.ChangeShapes Go.WideShapes Go.ChangeAt Go.RowKit
open Go.PlainAid (bt get_bt bt_nonneg bt_le bt_end)
set_option linter.unusedVariables false

theorem digs8' (x : Int) : digs x 8 = [x % 256, x / 256 % 256, x / 65536 % 256, x / 16777216 % 256, x / 4294967296 % 256, x / 1099511627776 % 256, x / 281474976710656 % 256, x / 72057594037927936 % 256] := by
  simp only [digs]; congr 1; congr 1
  have e1 : x / 256 / 256 = x / 65536 := by omega
  have e2 : x / 65536 / 256 = x / 16777216 := by omega
  have e3 : x / 16777216 / 256 = x / 4294967296 := by omega
  have e4 : x / 4294967296 / 256 = x / 1099511627776 := by omega
  have e5 : x / 1099511627776 / 256 = x / 281474976710656 := by omega
  have e6 : x / 281474976710656 / 256 = x / 72057594037927936 := by omega
  rw [e1, e2, e3, e4, e5, e6]

theorem ofB_eq {x y n : Int} (hn : isz n = true) (h : lowV x n = lowV y n) : ofB x n = ofB y n := by
  rw [ofB, if_pos hn, ofB, if_pos hn]
  rcases isz_true hn with rfl | rfl | rfl | rfl
  · rw [lowV1, lowV1] at h; simp only [Int.reduceToNat]; rw [digs1, digs1, h]
  · rw [lowV2, lowV2] at h; simp only [Int.reduceToNat]; rw [digs2, digs2]
    rw [show x % 256 = y % 256 by omega, show x / 256 % 256 = y / 256 % 256 by omega]
  · rw [lowV4, lowV4] at h; simp only [Int.reduceToNat]; rw [digs4, digs4]
    rw [show x % 256 = y % 256 by omega, show x / 256 % 256 = y / 256 % 256 by omega, show x / 65536 % 256 = y / 65536 % 256 by omega, show x / 16777216 % 256 = y / 16777216 % 256 by omega]
  · rw [lowV8, lowV8] at h; simp only [Int.reduceToNat]; rw [digs8', digs8']
    rw [show x % 256 = y % 256 by omega, show x / 256 % 256 = y / 256 % 256 by omega, show x / 65536 % 256 = y / 65536 % 256 by omega, show x / 16777216 % 256 = y / 16777216 % 256 by omega,
      show x / 4294967296 % 256 = y / 4294967296 % 256 by omega, show x / 1099511627776 % 256 = y / 1099511627776 % 256 by omega, show x / 281474976710656 % 256 = y / 281474976710656 % 256 by omega, show x / 72057594037927936 % 256 = y / 72057594037927936 % 256 by omega]

theorem ofB_iff {x y n : Int} (hn : isz n = true) : ofB x n = ofB y n ↔ lowV x n = lowV y n :=
  ⟨fun h => by rw [← num_ofB x n hn, ← num_ofB y n hn, h], ofB_eq hn⟩

theorem ofB_beq {x y n : Int} (hn : isz n = true) : ((ofB x n).toList == (ofB y n).toList) = (lowV x n == lowV y n) := by
  rw [Bool.eq_iff_iff, beq_iff_eq, beq_iff_eq, ByteArray.toList_eq, ByteArray.toList_eq]
  exact ⟨fun h => (ofB_iff hn).1 (ba_ext h), fun h => by rw [ofB_eq hn h]⟩

theorem ofB_84 (x : Int) : (ofB x 8).extract 0 4 = ofB x 4 := by
  apply ba_ext
  rw [Lib.extract_data, ofB, if_pos (by decide), ofB, if_pos (by decide), strOfNums_data, strOfNums_data]
  simp only [Int.reduceToNat]; rw [digs8', digs4]; rfl
theorem ofB_42 (x : Int) : (ofB x 4).extract 0 2 = ofB x 2 := by
  apply ba_ext
  rw [Lib.extract_data, ofB, if_pos (by decide), ofB, if_pos (by decide), strOfNums_data, strOfNums_data]
  simp only [Int.reduceToNat]; rw [digs4, digs2]; rfl

/-- What the walk asks of a number x at a size n: S is its Sign, L its Low, U the Sign as an unsigned number. -/
structure Sg (x n S L U : Int) (c : Int) : Prop where
  s : signV x n = S
  l : lowV x n = L
  u : IntKind.u64.wrap S = U
  ul : lowV U n = L
  us : signV U n = S
  ll : lowV L n = L
  u0 : 0 ≤ U
  u1 : U ≤ 18446744073709551615
  l0 : 0 ≤ L
  l1 : L ≤ 18446744073709551615
  lx : L ≤ x
  cas : (0 ≤ S ∧ U = L ∧ L / c = 0 ∧ S = L) ∨ (S < 0 ∧ ¬ L / c = 0 ∧ (n < 8 → S + 2 * c = L))
  sb : -9223372036854775808 ≤ S ∧ S ≤ 9223372036854775807
  sc : - c ≤ S ∧ S < c

theorem sg1 (x : Int) (h0 : 0 ≤ x) (h1 : x ≤ 18446744073709551615) : ∃ S L U, Sg x 1 S L U 128 := by
  refine ⟨_, _, _, rfl, rfl, rfl, ?_, ?_, ?_, ?_, ?_, ?_, ?_, ?_, ?_, ?_, ?_⟩ <;> (try rw [lowV1]) <;> (try rw [lowV1]) <;> (try rw [signV1]) <;> (try rw [signV1]) <;> (try rw [IntKind.wrap_u64]) <;> (try split) <;> (try split) <;> (try omega)
theorem sg2 (x : Int) (h0 : 0 ≤ x) (h1 : x ≤ 18446744073709551615) : ∃ S L U, Sg x 2 S L U 32768 := by
  refine ⟨_, _, _, rfl, rfl, rfl, ?_, ?_, ?_, ?_, ?_, ?_, ?_, ?_, ?_, ?_, ?_⟩ <;> (try rw [lowV2]) <;> (try rw [lowV2]) <;> (try rw [signV2]) <;> (try rw [signV2]) <;> (try rw [IntKind.wrap_u64]) <;> (try split) <;> (try split) <;> (try omega)
theorem sg4 (x : Int) (h0 : 0 ≤ x) (h1 : x ≤ 18446744073709551615) : ∃ S L U, Sg x 4 S L U 2147483648 := by
  refine ⟨_, _, _, rfl, rfl, rfl, ?_, ?_, ?_, ?_, ?_, ?_, ?_, ?_, ?_, ?_, ?_⟩ <;> (try rw [lowV4]) <;> (try rw [lowV4]) <;> (try rw [signV4]) <;> (try rw [signV4]) <;> (try rw [IntKind.wrap_u64]) <;> (try split) <;> (try split) <;> (try omega)
theorem sg8 (x : Int) (h0 : 0 ≤ x) (h1 : x ≤ 18446744073709551615) : ∃ S L U, Sg x 8 S L U 9223372036854775808 := by
  refine ⟨_, _, _, rfl, rfl, rfl, ?_, ?_, ?_, ?_, ?_, ?_, ?_, ?_, ?_, ?_, ?_⟩ <;> (try rw [lowV8]) <;> (try rw [lowV8]) <;> (try rw [signV8]) <;> (try rw [signV8]) <;> (try rw [IntKind.wrap_u64]) <;> (try split) <;> (try split) <;> (try omega)
end Go.Proofs.Yteaaocinkpipaaa
