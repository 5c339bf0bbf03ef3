/- Towards the statements of package word (layer 1), of what of it this program has: the document's Get, and Low and Sign of the program, for every argument. -/
import Derived.Test.YtdmdmbcapjmnlabGet
namespace Go.Proofs.Ytdmdmbcapjmnlab
open Go.ChangeShapes Go.WideShapes Go.ChangeAt Go.RowKit
open Go.PlainAid (bt get_bt bt_nonneg bt_le bt_end)
set_option linter.unusedVariables false
set_option maxRecDepth 20000

theorem errOf_zero {l a n : Int} (he : errOf l a n = 0) : isz n = true ∧ 0 ≤ a ∧ n ≤ l - a := by
  have h1 : isz n = true := by
    cases h : isz n
    · rw [errOf, if_pos (Or.inl h)] at he; omega
    · rfl
  have h2 : 0 ≤ a := by
    by_cases h : a < 0
    · rw [errOf, if_pos (Or.inr h)] at he; omega
    · omega
  refine ⟨h1, h2, ?_⟩
  by_cases h : l - a < n
  · rw [errOf, if_neg (by rw [h1]; simp; omega), if_pos h] at he; omega
  · omega

def lowV (x n : Int) : Int := if isz n then x % 256 ^ n.toNat else 0
def signV (x n : Int) : Int := if isz n then (if x % 256 ^ n.toNat * 2 < 256 ^ n.toNat then x % 256 ^ n.toNat else x % 256 ^ n.toNat - 256 ^ n.toNat) else 0

theorem lowV1 (x : Int) : lowV x 1 = x % 256 := by simp [lowV, isz]
theorem lowV2 (x : Int) : lowV x 2 = x % 65536 := by simp [lowV, isz]
theorem lowV4 (x : Int) : lowV x 4 = x % 4294967296 := by simp [lowV, isz]
theorem lowV8 (x : Int) : lowV x 8 = x % 18446744073709551616 := by simp [lowV, isz]
theorem lowV0 {n : Int} (x : Int) (h : isz n = false) : lowV x n = 0 := by simp [lowV, h]
theorem signV1 (x : Int) : signV x 1 = if x % 256 < 128 then x % 256 else x % 256 - 256 := by
  rw [signV, if_pos (by decide)]; simp only [Int.reduceToNat, Int.reducePow]; split <;> split <;> omega
theorem signV2 (x : Int) : signV x 2 = if x % 65536 < 32768 then x % 65536 else x % 65536 - 65536 := by
  rw [signV, if_pos (by decide)]; simp only [Int.reduceToNat, Int.reducePow]; split <;> split <;> omega
theorem signV4 (x : Int) : signV x 4 = if x % 4294967296 < 2147483648 then x % 4294967296 else x % 4294967296 - 4294967296 := by
  rw [signV, if_pos (by decide)]; simp only [Int.reduceToNat, Int.reducePow]; split <;> split <;> omega
theorem signV8 (x : Int) : signV x 8 = if x % 18446744073709551616 < 9223372036854775808 then x % 18446744073709551616 else x % 18446744073709551616 - 18446744073709551616 := by
  rw [signV, if_pos (by decide)]; simp only [Int.reduceToNat, Int.reducePow]; split <;> split <;> omega
theorem signV0 {n : Int} (x : Int) (h : isz n = false) : signV x n = 0 := by simp [signV, h]

set_option maxHeartbeats 1000000 in
theorem sign_any (x n : Int) (h0 : 0 ≤ x) (h1 : x ≤ 18446744073709551615) (w : World) : Calls Try.prog 63 #[.int .u64 x, .int .i64 n] w fun e w' => e = .returned (.int .i64 (signV x n)) ∧ w' = w := by
  cases h : isz n
  · go_enter Try.func63, Try.ntmps63
    go_wp2_with (go_at_call 65; refine (size_no _ (by assumption) _).mono ?_; rintro e w' ⟨rfl, rfl⟩)
    go_ret
    exact ⟨ret_int (signV0 x h).symm, rfl⟩
  · have hh := isz_true h
    clear h
    rcases hh with rfl | rfl | rfl | rfl
    all_goals
      go_enter Try.func63, Try.ntmps63
      go_wp2_with (go_at_call 65; refine (size_yes _ (by decide) _).mono ?_; rintro e w' ⟨rfl, rfl⟩)
      go_ret
      refine ⟨ret_int ?_, rfl⟩
    · rw [signV1]; (try simp only [wrap64]); (try simp only [IntKind.wrap_u64]); split <;> omega
    · rw [signV2]; (try simp only [wrap64]); (try simp only [IntKind.wrap_u64]); split <;> omega
    · rw [signV4]; (try simp only [wrap64]); (try simp only [IntKind.wrap_u64]); split <;> omega
    · rw [signV8]; (try simp only [wrap64]); (try simp only [IntKind.wrap_u64]); split <;> omega
end Go.Proofs.Ytdmdmbcapjmnlab
