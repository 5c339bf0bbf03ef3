/- Towards the statements of package word (layer 1), of what of it this program has: the document's Low and Sign, for every argument. -/
import Derived.Test.YtdmdmbcapjmnlaaGreatSet
namespace Go.Proofs.YtdmdmbcapjmnlaaGreat
open Go.ChangeShapes Go.WideShapes Go.ChangeAt Go.RowKit
open Go.PlainAid (bt get_bt bt_nonneg bt_le bt_end)
set_option linter.unusedVariables false

theorem bt_str (l : List Int) (k : Nat) (h : k < l.length) (hb : 0 ≤ l[k] ∧ l[k] ≤ 255) : bt (strOfNums l) k = l[k] := by
  have hk : k < (strOfNums l).data.toList.length := by rw [strOfNums_data, List.length_map]; exact h
  rw [← bt_list _ k hk, List.getElem_of_eq (strOfNums_data l) hk]
  simp only [List.getElem_map, UInt8.toNat_ofNat']
  omega

theorem digs_get : ∀ (n : Nat) (x : Int) (k : Nat) (h : k < (digs x n).length), (digs x n)[k] = x / 256 ^ k % 256
  | 0, x, k, h => by simp [digs] at h
  | n + 1, x, 0, h => by simp [digs]
  | n + 1, x, k + 1, h => by
    simp only [digs, List.getElem_cons_succ]
    rw [digs_get n (x / 256) k]
    rw [Int.ediv_ediv_of_nonneg (by omega), Int.pow_succ, Int.mul_comm]

theorem bt_ofB (x n : Int) (hn : isz n = true) (k : Nat) (h : k < n.toNat) : bt (ofB x n) k = x / 256 ^ k % 256 := by
  rw [ofB, if_pos hn]
  have hl : k < (digs x n.toNat).length := by rw [length_digs]; exact h
  have e := digs_get n.toNat x k hl
  rw [bt_str _ k hl (by rw [e]; omega), e]

theorem num_ofB (x n : Int) (hn : isz n = true) : numAt (ofB x n) 0 n.toNat = lowV x n := by
  have hb := bt_ofB x n hn
  rcases isz_true hn with rfl | rfl | rfl | rfl
  · rw [lowV1]; simp only [Int.reduceToNat, numAt] at hb ⊢; (try simp only [Nat.zero_add]); (try simp only [Nat.reduceAdd])
    rw [hb 0 (by omega)]; simp only [Int.reducePow]; omega
  · rw [lowV2]; simp only [Int.reduceToNat, numAt] at hb ⊢; (try simp only [Nat.zero_add]); (try simp only [Nat.reduceAdd])
    rw [hb 0 (by omega), hb 1 (by omega)]; simp only [Int.reducePow]; omega
  · rw [lowV4]; simp only [Int.reduceToNat, numAt] at hb ⊢; (try simp only [Nat.zero_add]); (try simp only [Nat.reduceAdd])
    rw [hb 0 (by omega), hb 1 (by omega), hb 2 (by omega), hb 3 (by omega)]; simp only [Int.reducePow]; omega
  · rw [lowV8]; simp only [Int.reduceToNat, numAt] at hb ⊢; (try simp only [Nat.zero_add]); (try simp only [Nat.reduceAdd])
    rw [hb 0 (by omega), hb 1 (by omega), hb 2 (by omega), hb 3 (by omega), hb 4 (by omega), hb 5 (by omega), hb 6 (by omega), hb 7 (by omega)]; simp only [Int.reducePow]; omega

theorem get_ofB (x n : Int) : getV (ofB x n) 0 n = lowV x n := by
  cases hn : isz n
  · rw [lowV0 x hn, getV, if_neg]
    rw [errOf, if_pos (Or.inl hn)]; decide
  · rw [getV, if_pos (errOf_ok hn (by omega) (by rw [size_ofB hn]; have := isz_true hn; omega))]
    exact num_ofB x n hn

theorem small_ofB (x n : Int) : (ofB x n).size ≤ maxLen := by
  cases hn : isz n
  · rw [ofB, hn]; exact Nat.zero_le _
  · rw [size_ofB hn]; have := isz_true hn; unfold maxLen; omega

theorem or_i64 (m b : Int) (h0 : 0 ≤ b) (h1 : b < 256) (hm : -36028797018963968 ≤ m ∧ m < 36028797018963968) : bits .or .i64 (m * 256) b = m * 256 + b := by
  obtain ⟨M, hM⟩ : ∃ M : Nat, (m % 72057594037927936) = (M : Int) := Int.eq_ofNat_of_zero_le (by omega)
  obtain ⟨B, rfl⟩ := Int.eq_ofNat_of_zero_le h0
  have e1 : (BitVec.ofInt 64 (m * 256)).toNat = M * 256 := by
    rw [BitVec.toNat_ofInt]; simp only [Nat.reducePow]; omega
  have e2 : (BitVec.ofInt 64 (B : Int)).toNat = B := by
    rw [BitVec.toNat_ofInt]; simp only [Nat.reducePow]; omega
  have e3 : bits .or .i64 (m * 256) (B : Int) = IntKind.i64.wrap (((BitVec.ofInt 64 (m * 256)) ||| (BitVec.ofInt 64 (B : Int))).toNat : Int) := rfl
  rw [e3, BitVec.toNat_or, e1, e2, Nat.or_comm, or_mul B M 8 256 (by decide) (by omega), IntKind.wrap_i64]
  omega

theorem or_w (m b : Int) (h0 : 0 ≤ b) (h1 : b ≤ 255) (hm : -36028797018963968 ≤ m ∧ m < 36028797018963968) : bits .or .i64 (wrap64 (m * 256)) b = m * 256 + b := by
  rw [IntWalk.wrap64_in _ ⟨by omega, by omega⟩]
  exact or_i64 m b h0 (by omega) hm
theorem or_m (b : Int) (h0 : 0 ≤ b) (h1 : b ≤ 255) : bits .or .i64 (-256) b = b - 256 := by
  have := or_i64 (-1) b h0 (by omega) (by omega)
  rw [show (-256 : Int) = -1 * 256 from rfl, this]; omega
theorem or_0 (b : Int) (h0 : 0 ≤ b) (h1 : b ≤ 255) : bits .or .i64 0 b = b := by
  have := or_i64 0 b h0 (by omega) (by omega)
  simpa using this

set_option maxRecDepth 100000 in
set_option maxHeartbeats 2000000 in
theorem rsign_yes (x n : Int) (h0 : 0 ≤ x) (h1 : x ≤ 18446744073709551615) (hm : isz n = true) (w : World) : Calls Tryz.prog 57 #[.int .u64 x, .int .i64 n] w fun e w' => e = .returned (.int .i64 (signV x n)) ∧ Gr w w' := by
  have hz := size_ofB (x := x) hm
  have hb := get_bt (ofB x n)
  have hv : Hid (∀ k, k < n.toNat → bt (ofB x n) k = x / 256 ^ k % 256) := bt_ofB x n hm
  have e0 := bt_bd (ofB x n) 0
  have e1 := bt_bd (ofB x n) 1
  have e2 := bt_bd (ofB x n) 2
  have e3 := bt_bd (ofB x n) 3
  have e4 := bt_bd (ofB x n) 4
  have e5 := bt_bd (ofB x n) 5
  have e6 := bt_bd (ofB x n) 6
  have e7 := bt_bd (ofB x n) 7
  rcases isz_true hm with rfl | rfl | rfl | rfl
  all_goals simp only [Int.reduceToNat] at hz hv
  · by_cases hc : 128 ≤ bt (ofB x 1) 0
    all_goals
      go_enter Tryz.func57, Tryz.ntmps57
      go_wp2_with (first | (go_at_call 87; refine (may_any _ _).mono ?_; rintro e w' ⟨rfl, rfl⟩) | (go_at_call 61; refine (rof_any x h0 h1 _ _).mono ?_; rintro e w' ⟨rfl, hg⟩))
      go_rounds 9
      go_ret
      refine ⟨ret_int ?_, hg⟩
      have v0 := hv.out 0 (by omega)
      simp only [Int.reducePow] at v0
      rw [signV1]
    · rw [or_m _ e0.1 e0.2, if_neg (by omega)]; omega
    · rw [or_0 _ e0.1 e0.2, if_pos (by omega)]; omega
  · by_cases hc : 128 ≤ bt (ofB x 2) 1
    all_goals
      go_enter Tryz.func57, Tryz.ntmps57
      go_wp2_with (first | (go_at_call 87; refine (may_any _ _).mono ?_; rintro e w' ⟨rfl, rfl⟩) | (go_at_call 61; refine (rof_any x h0 h1 _ _).mono ?_; rintro e w' ⟨rfl, hg⟩))
      go_rounds 9
      go_ret
      refine ⟨ret_int ?_, hg⟩
      have v0 := hv.out 0 (by omega)
      have v1 := hv.out 1 (by omega)
      simp only [Int.reducePow] at v0 v1
      rw [signV2]
    · rw [or_m _ e1.1 e1.2, or_w _ _ e0.1 e0.2 (by omega), if_neg (by omega)]; omega
    · rw [or_0 _ e1.1 e1.2, or_w _ _ e0.1 e0.2 (by omega), if_pos (by omega)]; omega
  · by_cases hc : 128 ≤ bt (ofB x 4) 3
    all_goals
      go_enter Tryz.func57, Tryz.ntmps57
      go_wp2_with (first | (go_at_call 87; refine (may_any _ _).mono ?_; rintro e w' ⟨rfl, rfl⟩) | (go_at_call 61; refine (rof_any x h0 h1 _ _).mono ?_; rintro e w' ⟨rfl, hg⟩))
      go_rounds 9
      go_ret
      refine ⟨ret_int ?_, hg⟩
      have v0 := hv.out 0 (by omega)
      have v1 := hv.out 1 (by omega)
      have v2 := hv.out 2 (by omega)
      have v3 := hv.out 3 (by omega)
      simp only [Int.reducePow] at v0 v1 v2 v3
      rw [signV4]
    · rw [or_m _ e3.1 e3.2, or_w _ _ e2.1 e2.2 (by omega), or_w _ _ e1.1 e1.2 (by omega), or_w _ _ e0.1 e0.2 (by omega), if_neg (by omega)]; omega
    · rw [or_0 _ e3.1 e3.2, or_w _ _ e2.1 e2.2 (by omega), or_w _ _ e1.1 e1.2 (by omega), or_w _ _ e0.1 e0.2 (by omega), if_pos (by omega)]; omega
  · by_cases hc : 128 ≤ bt (ofB x 8) 7
    all_goals
      go_enter Tryz.func57, Tryz.ntmps57
      go_wp2_with (first | (go_at_call 87; refine (may_any _ _).mono ?_; rintro e w' ⟨rfl, rfl⟩) | (go_at_call 61; refine (rof_any x h0 h1 _ _).mono ?_; rintro e w' ⟨rfl, hg⟩))
      go_rounds 9
      go_ret
      refine ⟨ret_int ?_, hg⟩
      have v0 := hv.out 0 (by omega)
      have v1 := hv.out 1 (by omega)
      have v2 := hv.out 2 (by omega)
      have v3 := hv.out 3 (by omega)
      have v4 := hv.out 4 (by omega)
      have v5 := hv.out 5 (by omega)
      have v6 := hv.out 6 (by omega)
      have v7 := hv.out 7 (by omega)
      simp only [Int.reducePow] at v0 v1 v2 v3 v4 v5 v6 v7
      rw [signV8]
    · rw [or_m _ e7.1 e7.2, or_w _ _ e6.1 e6.2 (by omega), or_w _ _ e5.1 e5.2 (by omega), or_w _ _ e4.1 e4.2 (by omega), or_w _ _ e3.1 e3.2 (by omega), or_w _ _ e2.1 e2.2 (by omega), or_w _ _ e1.1 e1.2 (by omega), or_w _ _ e0.1 e0.2 (by omega), if_neg (by omega)]; omega
    · rw [or_0 _ e7.1 e7.2, or_w _ _ e6.1 e6.2 (by omega), or_w _ _ e5.1 e5.2 (by omega), or_w _ _ e4.1 e4.2 (by omega), or_w _ _ e3.1 e3.2 (by omega), or_w _ _ e2.1 e2.2 (by omega), or_w _ _ e1.1 e1.2 (by omega), or_w _ _ e0.1 e0.2 (by omega), if_pos (by omega)]; omega

theorem rsign_any (x n : Int) (h0 : 0 ≤ x) (h1 : x ≤ 18446744073709551615) (w : World) : Calls Tryz.prog 57 #[.int .u64 x, .int .i64 n] w fun e w' => e = .returned (.int .i64 (signV x n)) ∧ Gr w w' := by
  cases h : isz n
  · go_enter Tryz.func57, Tryz.ntmps57
    go_wp2_with (go_at_call 87; refine (may_any _ _).mono ?_; rintro e w' ⟨rfl, rfl⟩)
    go_ret
    exact ⟨ret_int (signV0 x h).symm, Gr.refl _⟩
  · exact rsign_yes x n h0 h1 h w
end Go.Proofs.YtdmdmbcapjmnlaaGreat
