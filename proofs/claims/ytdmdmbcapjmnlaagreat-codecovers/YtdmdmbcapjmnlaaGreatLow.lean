/- Towards the statements of package word (layer 1), of what of it this program has: the document's Get, and Low and Sign of the program, for every argument. -/
import Derived.Test.YtdmdmbcapjmnlaaGreatGet
namespace Go.Proofs.YtdmdmbcapjmnlaaGreat
open Go.ChangeShapes Go.WideShapes Go.ChangeAt Go.RowKit
open Go.PlainAid (bt get_bt bt_nonneg bt_le bt_end)
set_option linter.unusedVariables false
set_option maxRecDepth 20000

theorem errOf_zero {l a n : Int} (he : errOf l a n = 0) : isz n = true ∧ 0 ≤ a ∧ n ≤ l - a := by
  have h1 : isz n = true := by
    cases h : isz n
    · rw [errOf, if_pos (Or.inl h)] at he; omega
    · rfl
  have h2 : 0 ≤ a := by
    by_cases h : a < 0
    · rw [errOf, if_pos (Or.inr h)] at he; omega
    · omega
  refine ⟨h1, h2, ?_⟩
  by_cases h : l - a < n
  · rw [errOf, if_neg (by rw [h1]; simp; omega), if_pos h] at he; omega
  · omega

set_option maxHeartbeats 1000000 in
theorem rget_lit (s : ByteArray) (a : Nat) (n : Int) (hn : isz n = true) (hs : s.size ≤ maxLen) (ha : a + n.toNat ≤ s.size) (w : World) : Calls Tryz.prog 56 #[.string s, .int .i64 a, .int .i64 n] w fun e w' => e = .returned (.tuple #[.int .u64 (numAt s a n.toNat), .int .i64 0]) ∧ w' = w := by
  have hn' := isz_true hn
  unfold maxLen at hs
  have e0 := bt_bd s a
  have e1 := bt_bd s (a + 1)
  have e2 := bt_bd s (a + 2)
  have e3 := bt_bd s (a + 3)
  have e4 := bt_bd s (a + 4)
  have e5 := bt_bd s (a + 5)
  have e6 := bt_bd s (a + 6)
  have e7 := bt_bd s (a + 7)
  have hb := get_bt s
  have hm : isz 1 = true ∧ isz 2 = true ∧ isz 4 = true ∧ isz 8 = true := by decide
  obtain ⟨hm1, hm2, hm4, hm8⟩ := hm
  rcases hn' with rfl | rfl | rfl | rfl
  all_goals
    clear hn
    simp only [Int.reduceToNat] at ha ⊢
    go_enter Tryz.func56, Tryz.ntmps56
    go_wp2_with (first | (go_at_call 87; refine (may_any _ _).mono ?_; rintro e w' ⟨rfl, rfl⟩) )
    go_rounds 9
    go_ret2
    refine ⟨ret_two ?_ rfl, rfl⟩
    simp only [numAt]
    try simp only [Nat.add_assoc, Nat.reduceAdd]
    omega

set_option maxHeartbeats 1000000 in
theorem rget_any (s : ByteArray) (a n : Int) (hs : s.size ≤ maxLen) (ha : -9223372036854775808 ≤ a ∧ a ≤ 9223372036854775807) (w : World) : Calls Tryz.prog 56 #[.string s, .int .i64 a, .int .i64 n] w fun e w' => e = .returned (.tuple #[.int .u64 (getV s a n), .int .i64 (errOf s.size a n)]) ∧ w' = w := by
  by_cases he : errOf s.size a n = 0
  · obtain ⟨h1, h2, h3⟩ := errOf_zero he
    rw [getV, if_pos he, he]
    obtain ⟨k, rfl⟩ := Int.eq_ofNat_of_zero_le h2
    have := isz_true h1
    exact rget_lit s k n h1 hs (by omega) w
  · have hv : Hid (getV s a n = 0) := by rw [Hid, getV, if_neg he]
    unfold maxLen at hs
    by_cases h1 : isz n = false ∨ a < 0
    · have hv2 : Hid (errOf s.size a n = 2) := by rw [Hid, errOf, if_pos h1]
      clear he
      cases h : isz n
      · clear h1
        go_enter Tryz.func56, Tryz.ntmps56
        go_wp2_with (first | (go_at_call 87; refine (may_any _ _).mono ?_; rintro e w' ⟨rfl, rfl⟩) )
        go_ret2
        exact ⟨ret_two hv.out.symm hv2.out.symm, rfl⟩
      · have h2 : a < 0 := by rcases h1 with h1 | h1 <;> simp_all
        clear h1
        go_enter Tryz.func56, Tryz.ntmps56
        go_wp2_with (first | (go_at_call 87; refine (may_any _ _).mono ?_; rintro e w' ⟨rfl, rfl⟩) )
        go_ret2
        exact ⟨ret_two hv.out.symm hv2.out.symm, rfl⟩
    · have h2 : s.size - a < n := by
        by_cases h2 : s.size - a < n
        · exact h2
        · rw [errOf, if_neg h1, if_neg h2] at he; exact absurd rfl he
      have hv2 : Hid (errOf s.size a n = 10) := by rw [Hid, errOf, if_neg h1, if_pos h2]
      have h : isz n = true := by cases h : isz n <;> simp_all
      have h3 : 0 ≤ a := by
        by_cases h4 : a < 0
        · exact absurd (Or.inr h4) h1
        · omega
      clear he h1
      by_cases h4 : (s.size : Int) < a
      all_goals
        go_enter Tryz.func56, Tryz.ntmps56
        go_wp2_with (first | (go_at_call 87; refine (may_any _ _).mono ?_; rintro e w' ⟨rfl, rfl⟩) )
        go_ret2
        exact ⟨ret_two hv.out.symm hv2.out.symm, rfl⟩

def lowV (x n : Int) : Int := if isz n then x % 256 ^ n.toNat else 0
def signV (x n : Int) : Int := if isz n then (if x % 256 ^ n.toNat * 2 < 256 ^ n.toNat then x % 256 ^ n.toNat else x % 256 ^ n.toNat - 256 ^ n.toNat) else 0

theorem lowV1 (x : Int) : lowV x 1 = x % 256 := by simp [lowV, isz]
theorem lowV2 (x : Int) : lowV x 2 = x % 65536 := by simp [lowV, isz]
theorem lowV4 (x : Int) : lowV x 4 = x % 4294967296 := by simp [lowV, isz]
theorem lowV8 (x : Int) : lowV x 8 = x % 18446744073709551616 := by simp [lowV, isz]
theorem lowV0 {n : Int} (x : Int) (h : isz n = false) : lowV x n = 0 := by simp [lowV, h]
theorem signV1 (x : Int) : signV x 1 = if x % 256 < 128 then x % 256 else x % 256 - 256 := by
  rw [signV, if_pos (by decide)]; simp only [Int.reduceToNat, Int.reducePow]; split <;> split <;> omega
theorem signV2 (x : Int) : signV x 2 = if x % 65536 < 32768 then x % 65536 else x % 65536 - 65536 := by
  rw [signV, if_pos (by decide)]; simp only [Int.reduceToNat, Int.reducePow]; split <;> split <;> omega
theorem signV4 (x : Int) : signV x 4 = if x % 4294967296 < 2147483648 then x % 4294967296 else x % 4294967296 - 4294967296 := by
  rw [signV, if_pos (by decide)]; simp only [Int.reduceToNat, Int.reducePow]; split <;> split <;> omega
theorem signV8 (x : Int) : signV x 8 = if x % 18446744073709551616 < 9223372036854775808 then x % 18446744073709551616 else x % 18446744073709551616 - 18446744073709551616 := by
  rw [signV, if_pos (by decide)]; simp only [Int.reduceToNat, Int.reducePow]; split <;> split <;> omega
theorem signV0 {n : Int} (x : Int) (h : isz n = false) : signV x n = 0 := by simp [signV, h]

set_option maxHeartbeats 1000000 in
theorem sign_any (x n : Int) (h0 : 0 ≤ x) (h1 : x ≤ 18446744073709551615) (w : World) : Calls Tryz.prog 86 #[.int .u64 x, .int .i64 n] w fun e w' => e = .returned (.int .i64 (signV x n)) ∧ w' = w := by
  cases h : isz n
  · go_enter Tryz.func86, Tryz.ntmps86
    go_wp2_with (go_at_call 92; refine (size_no _ (by assumption) _).mono ?_; rintro e w' ⟨rfl, rfl⟩)
    go_ret
    exact ⟨ret_int (signV0 x h).symm, rfl⟩
  · have hh := isz_true h
    clear h
    rcases hh with rfl | rfl | rfl | rfl
    all_goals
      go_enter Tryz.func86, Tryz.ntmps86
      go_wp2_with (go_at_call 92; refine (size_yes _ (by decide) _).mono ?_; rintro e w' ⟨rfl, rfl⟩)
      go_ret
      refine ⟨ret_int ?_, rfl⟩
    · rw [signV1]; (try simp only [wrap64]); (try simp only [IntKind.wrap_u64]); split <;> omega
    · rw [signV2]; (try simp only [wrap64]); (try simp only [IntKind.wrap_u64]); split <;> omega
    · rw [signV4]; (try simp only [wrap64]); (try simp only [IntKind.wrap_u64]); split <;> omega
    · rw [signV8]; (try simp only [wrap64]); (try simp only [IntKind.wrap_u64]); split <;> omega
end Go.Proofs.YtdmdmbcapjmnlaaGreat
