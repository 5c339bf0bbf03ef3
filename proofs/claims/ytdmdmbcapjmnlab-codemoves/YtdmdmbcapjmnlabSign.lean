/- Towards the statements of package word (layer 1), of what of it this program has: the document's Low and Sign, for every argument. -/
import Derived.Test.YtdmdmbcapjmnlabSet
namespace Go.Proofs.Ytdmdmbcapjmnlab
open Go.ChangeShapes Go.WideShapes Go.ChangeAt Go.RowKit
open Go.PlainAid (bt get_bt bt_nonneg bt_le bt_end)
set_option linter.unusedVariables false

theorem bt_str (l : List Int) (k : Nat) (h : k < l.length) (hb : 0 ≤ l[k] ∧ l[k] ≤ 255) : bt (strOfNums l) k = l[k] := by
  have hk : k < (strOfNums l).data.toList.length := by rw [strOfNums_data, List.length_map]; exact h
  rw [← bt_list _ k hk, List.getElem_of_eq (strOfNums_data l) hk]
  simp only [List.getElem_map, UInt8.toNat_ofNat']
  omega

theorem digs_get : ∀ (n : Nat) (x : Int) (k : Nat) (h : k < (digs x n).length), (digs x n)[k] = x / 256 ^ k % 256
  | 0, x, k, h => by simp [digs] at h
  | n + 1, x, 0, h => by simp [digs]
  | n + 1, x, k + 1, h => by
    simp only [digs, List.getElem_cons_succ]
    rw [digs_get n (x / 256) k]
    rw [Int.ediv_ediv_of_nonneg (by omega), Int.pow_succ, Int.mul_comm]

theorem bt_ofB (x n : Int) (hn : isz n = true) (k : Nat) (h : k < n.toNat) : bt (ofB x n) k = x / 256 ^ k % 256 := by
  rw [ofB, if_pos hn]
  have hl : k < (digs x n.toNat).length := by rw [length_digs]; exact h
  have e := digs_get n.toNat x k hl
  rw [bt_str _ k hl (by rw [e]; omega), e]

theorem num_ofB (x n : Int) (hn : isz n = true) : numAt (ofB x n) 0 n.toNat = lowV x n := by
  have hb := bt_ofB x n hn
  rcases isz_true hn with rfl | rfl | rfl | rfl
  · rw [lowV1]; simp only [Int.reduceToNat, numAt] at hb ⊢; (try simp only [Nat.zero_add]); (try simp only [Nat.reduceAdd])
    rw [hb 0 (by omega)]; simp only [Int.reducePow]; omega
  · rw [lowV2]; simp only [Int.reduceToNat, numAt] at hb ⊢; (try simp only [Nat.zero_add]); (try simp only [Nat.reduceAdd])
    rw [hb 0 (by omega), hb 1 (by omega)]; simp only [Int.reducePow]; omega
  · rw [lowV4]; simp only [Int.reduceToNat, numAt] at hb ⊢; (try simp only [Nat.zero_add]); (try simp only [Nat.reduceAdd])
    rw [hb 0 (by omega), hb 1 (by omega), hb 2 (by omega), hb 3 (by omega)]; simp only [Int.reducePow]; omega
  · rw [lowV8]; simp only [Int.reduceToNat, numAt] at hb ⊢; (try simp only [Nat.zero_add]); (try simp only [Nat.reduceAdd])
    rw [hb 0 (by omega), hb 1 (by omega), hb 2 (by omega), hb 3 (by omega), hb 4 (by omega), hb 5 (by omega), hb 6 (by omega), hb 7 (by omega)]; simp only [Int.reducePow]; omega

theorem get_ofB (x n : Int) : getV (ofB x n) 0 n = lowV x n := by
  cases hn : isz n
  · rw [lowV0 x hn, getV, if_neg]
    rw [errOf, if_pos (Or.inl hn)]; decide
  · rw [getV, if_pos (errOf_ok hn (by omega) (by rw [size_ofB hn]; have := isz_true hn; omega))]
    exact num_ofB x n hn

theorem small_ofB (x n : Int) : (ofB x n).size ≤ maxLen := by
  cases hn : isz n
  · rw [ofB, hn]; exact Nat.zero_le _
  · rw [size_ofB hn]; have := isz_true hn; unfold maxLen; omega

theorem or_i64 (m b : Int) (h0 : 0 ≤ b) (h1 : b < 256) (hm : -36028797018963968 ≤ m ∧ m < 36028797018963968) : bits .or .i64 (m * 256) b = m * 256 + b := by
  obtain ⟨M, hM⟩ : ∃ M : Nat, (m % 72057594037927936) = (M : Int) := Int.eq_ofNat_of_zero_le (by omega)
  obtain ⟨B, rfl⟩ := Int.eq_ofNat_of_zero_le h0
  have e1 : (BitVec.ofInt 64 (m * 256)).toNat = M * 256 := by
    rw [BitVec.toNat_ofInt]; simp only [Nat.reducePow]; omega
  have e2 : (BitVec.ofInt 64 (B : Int)).toNat = B := by
    rw [BitVec.toNat_ofInt]; simp only [Nat.reducePow]; omega
  have e3 : bits .or .i64 (m * 256) (B : Int) = IntKind.i64.wrap (((BitVec.ofInt 64 (m * 256)) ||| (BitVec.ofInt 64 (B : Int))).toNat : Int) := rfl
  rw [e3, BitVec.toNat_or, e1, e2, Nat.or_comm, or_mul B M 8 256 (by decide) (by omega), IntKind.wrap_i64]
  omega

theorem or_w (m b : Int) (h0 : 0 ≤ b) (h1 : b ≤ 255) (hm : -36028797018963968 ≤ m ∧ m < 36028797018963968) : bits .or .i64 (wrap64 (m * 256)) b = m * 256 + b := by
  rw [IntWalk.wrap64_in _ ⟨by omega, by omega⟩]
  exact or_i64 m b h0 (by omega) hm
theorem or_m (b : Int) (h0 : 0 ≤ b) (h1 : b ≤ 255) : bits .or .i64 (-256) b = b - 256 := by
  have := or_i64 (-1) b h0 (by omega) (by omega)
  rw [show (-256 : Int) = -1 * 256 from rfl, this]; omega
theorem or_0 (b : Int) (h0 : 0 ≤ b) (h1 : b ≤ 255) : bits .or .i64 0 b = b := by
  have := or_i64 0 b h0 (by omega) (by omega)
  simpa using this

end Go.Proofs.Ytdmdmbcapjmnlab
