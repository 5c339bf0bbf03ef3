/- Towards the statements of package word (layer 1), of what of it this program has: what counts as a size, and why there is no number of that size at that place: contracts of isSize, May and fits, for every argument. -/
import Derived.Test.YtdmdmbcapjmnlabRows
import Derived.WalkKit
import Derived.WalkSpells
import Derived.ProofKit
import Derived.OpenShut
import Derived.ShutString
import Derived.BigQuiet
import Derived.Deep.QuietTactic
namespace Go.Proofs.Ytdmdmbcapjmnlab
open Go.ChangeShapes Go.WideShapes Go.ChangeAt Go.RowKit
set_option linter.unusedVariables false

def isz (n : Int) : Bool := n == 1 || n == 2 || n == 4 || n == 8

theorem isz_false {n : Int} (h : isz n = false) : ((n == 1) = false ∧ (n == 2) = false) ∧ ((n == 4) = false ∧ (n == 8) = false) := by
  simp only [isz, Bool.or_eq_false_iff] at h
  exact ⟨h.1.1, h.1.2, h.2⟩
theorem isz_true {n : Int} (h : isz n = true) : n = 1 ∨ n = 2 ∨ n = 4 ∨ n = 8 := by
  simp only [isz, Bool.or_eq_true, beq_iff_eq] at h
  omega

set_option maxHeartbeats 400000 in
theorem size_yes (n : Int) (h : isz n = true) (w : World) : Calls Try.prog 65 #[.int .i64 n] w fun e w' => e = .returned (.bool true) ∧ w' = w := by
  rcases isz_true h with rfl | rfl | rfl | rfl
  all_goals
    clear h
    go_enter Try.func65, Try.ntmps65
    go_wp2
    go_ret
    exact ⟨rfl, rfl⟩
set_option maxHeartbeats 400000 in
theorem size_no (n : Int) (h : isz n = false) (w : World) : Calls Try.prog 65 #[.int .i64 n] w fun e w' => e = .returned (.bool false) ∧ w' = w := by
  obtain ⟨⟨h1, h2⟩, h4, h8⟩ := isz_false h
  clear h
  go_enter Try.func65, Try.ntmps65
  go_wp2
  go_ret
  exact ⟨rfl, rfl⟩
theorem size_any (n : Int) (w : World) : Calls Try.prog 65 #[.int .i64 n] w fun e w' => e = .returned (.bool (isz n)) ∧ w' = w := by
  cases h : isz n
  · exact size_no n h w
  · exact size_yes n h w
def errOf (len at_ n : Int) : Int := if isz n = false ∨ at_ < 0 then 2 else if len - at_ < n then 10 else 0
theorem errOf_ok {l a n : Int} (h : isz n = true) (h1 : 0 ≤ a) (h2 : n ≤ l - a) : errOf l a n = 0 := by
  rw [errOf, if_neg (by rw [h]; simp; omega), if_neg (by omega)]

set_option maxHeartbeats 400000 in
theorem fits_any (s : ByteArray) (a n : Int) (hs : s.size ≤ maxLen) (ha : -9223372036854775808 ≤ a ∧ a ≤ 9223372036854775807) (w : World) :
    Calls Try.prog 88 #[.string s, .int .i64 a, .int .i64 n] w fun e w' => e = .returned (.int .i64 (errOf s.size a n)) ∧ w' = w := by
  unfold maxLen at hs
  cases h : isz n
  · go_enter Try.func88, Try.ntmps88
    go_wp2_with (go_at_call 65; refine (size_no _ (by assumption) _).mono ?_; rintro e w' ⟨rfl, rfl⟩)
    go_ret
    exact ⟨by simp [errOf, h], rfl⟩
  · by_cases ha0 : a < 0
    · go_enter Try.func88, Try.ntmps88
      go_wp2_with (go_at_call 65; refine (size_yes _ (by assumption) _).mono ?_; rintro e w' ⟨rfl, rfl⟩)
      go_ret
      exact ⟨by simp [errOf, h, ha0], rfl⟩
    · by_cases hl : (s.size : Int) - a < n
      · go_enter Try.func88, Try.ntmps88
        go_wp2_with (go_at_call 65; refine (size_yes _ (by assumption) _).mono ?_; rintro e w' ⟨rfl, rfl⟩)
        go_ret
        exact ⟨by simp [errOf, h, ha0, hl], rfl⟩
      · go_enter Try.func88, Try.ntmps88
        go_wp2_with (go_at_call 65; refine (size_yes _ (by assumption) _).mono ?_; rintro e w' ⟨rfl, rfl⟩)
        go_ret
        exact ⟨by rw [errOf_ok h ha0 hl]; rfl, rfl⟩
end Go.Proofs.Ytdmdmbcapjmnlab
