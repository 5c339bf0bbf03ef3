/- Towards the statements of package name (layer 9): letters, digits. -/
import Derived.Test.YtmcjmdoeafhjpaaRows
import Derived.Test.YtmcjmdoeafhjpaaShelf
import Derived.Test.YtmcjmdoeafhjpaaNN
import Derived.WalkKit
import Derived.ProofKit
import Derived.Handy
import Derived.WalkSpells
import Derived.Deep.RegionWith
import Derived.Deep.DeepCutAuto
import Derived.Deep.RegionHeld3
import Derived.Deep.QuietTactic
import Derived.Laws.EntriesVeiled
namespace Go.Proofs.Ytmcjmdoeafhjpaa
open Go.ChangeShapes Go.WideShapes Go.ChangeAt Go.RowKit
set_option linter.unusedVariables false
set_option linter.unusedSimpArgs false
set_option maxRecDepth 20000
theorem let1 (r : Int) (w : World) : Calls Try.prog 103 #[.int .i32 r] w fun e w' => e = .returned (.bool (decide (97 ≤ r ∧ r ≤ 122))) ∧ w' = w := by
  go_enter Try.func103, Try.ntmps103
  go_wp2
  all_goals go_returns
  all_goals (simp_all <;> omega)
theorem let2 (r : Int) (w : World) : Calls Try.prog 104 #[.int .i32 r] w fun e w' => e = .returned (.bool (decide (65 ≤ r ∧ r ≤ 90))) ∧ w' = w := by
  go_enter Try.func104, Try.ntmps104
  go_wp2
  all_goals go_returns
  all_goals (simp_all <;> omega)
theorem let3 (r : Int) (w : World) : Calls Try.prog 105 #[.int .i32 r] w fun e w' => e = .returned (.bool (decide (r = 95))) ∧ w' = w := by
  go_enter Try.func105, Try.ntmps105
  go_wp2
  go_returns
  exact ⟨by by_cases h : r = 95 <;> simp [h], rfl⟩
theorem valid_eq (r : Int) : Lib.validRune r = Utf8.valid r := by
  unfold Lib.validRune Utf8.valid
  rw [Bool.eq_iff_iff]
  simp
  omega
theorem let4 (r : Int) (w : World) : Calls Try.prog 106 #[.int .i32 r] w fun e w' => e = .returned (.bool (decide (192 ≤ r ∧ r ≠ 215 ∧ r ≠ 247) && Utf8.valid r)) ∧ w' = w := by
  have hv := fun W => valid_eq r ▸ Try.utf8_ValidRune r W
  generalize Utf8.valid r = q at hv ⊢
  go_enter Try.func106, Try.ntmps106
  go_wp2_with (go_at_call 107; refine (hv _).mono ?_; rintro e w' ⟨rfl, rfl⟩)
  all_goals go_returns
  all_goals (simp_all <;> omega)
  all_goals omega
theorem digit_any (r : Int) (w : World) : Calls Try.prog 99 #[.int .i32 r] w fun e w' => e = .returned (.bool (digitB r)) ∧ w' = w := by
  unfold digitB
  go_enter Try.func99, Try.ntmps99
  go_wp2
  all_goals go_returns
  all_goals (simp_all <;> omega)
theorem rdigit_any (r : Int) (w : World) : Calls Try.prog 52 #[.int .i64 r] w fun e w' => e = .returned (.bool (digitB r)) ∧ w' = w := by
  unfold digitB
  go_enter Try.func52, Try.ntmps52
  go_wp2
  all_goals go_returns
  all_goals (simp_all <;> omega)
theorem letters_any (w : World) : Calls Try.prog 101 #[] w fun e w' => e = .returned (.slice (some ⟨w.heap.size, 0, none⟩) 4 4) ∧ w' = w.alloc (.cells #[.func (.func 103) #[] #[], .func (.func 104) #[] #[], .func (.func 105) #[] #[], .func (.func 106) #[] #[]] 121) := by
  go_enter Try.func101, Try.ntmps101
  go_wp2
  go_returns
  exact ⟨rfl, rfl⟩
set_option maxHeartbeats 4000000 in
theorem letter_of (r : Int) (q1 q2 q3 q4 : Bool) (h1 : ∀ W, Calls Try.prog 103 #[.int .i32 r] W fun e w' => e = .returned (.bool q1) ∧ w' = W) (h2 : ∀ W, Calls Try.prog 104 #[.int .i32 r] W fun e w' => e = .returned (.bool q2) ∧ w' = W) (h3 : ∀ W, Calls Try.prog 105 #[.int .i32 r] W fun e w' => e = .returned (.bool q3) ∧ w' = W) (h4 : ∀ W, Calls Try.prog 106 #[.int .i32 r] W fun e w' => e = .returned (.bool q4) ∧ w' = W) (w : World) :
    Calls Try.prog 98 #[.int .i32 r] w fun e w' => e = .returned (.bool (q1 || q2 || q3 || q4)) ∧ Bl w w' := by
  cases q1 with
  | true =>
    go_enter Try.func98, Try.ntmps98
    go_wp2_with (go_at_call 101; refine (letters_any _).mono ?_; rintro e w' ⟨rfl, rfl⟩)
    refine wp_loop_rounds 5 ?_
    repeat any_goals (rw [rounds_succ]; go_wp2_with (first | (go_at_call 103; refine (h1 _).mono ?_; rintro e w' ⟨rfl, rfl⟩) | (go_at_call 104; refine (h2 _).mono ?_; rintro e w' ⟨rfl, rfl⟩) | (go_at_call 105; refine (h3 _).mono ?_; rintro e w' ⟨rfl, rfl⟩) | (go_at_call 106; refine (h4 _).mono ?_; rintro e w' ⟨rfl, rfl⟩)))
    all_goals (try rw [Exit.noGoto_ret])
    all_goals go_returns
    all_goals exact ⟨by simp, (Bl.refl _).alloc _⟩
  | false =>
    cases q2 with
    | true =>
      go_enter Try.func98, Try.ntmps98
      go_wp2_with (go_at_call 101; refine (letters_any _).mono ?_; rintro e w' ⟨rfl, rfl⟩)
      refine wp_loop_rounds 5 ?_
      repeat any_goals (rw [rounds_succ]; go_wp2_with (first | (go_at_call 103; refine (h1 _).mono ?_; rintro e w' ⟨rfl, rfl⟩) | (go_at_call 104; refine (h2 _).mono ?_; rintro e w' ⟨rfl, rfl⟩) | (go_at_call 105; refine (h3 _).mono ?_; rintro e w' ⟨rfl, rfl⟩) | (go_at_call 106; refine (h4 _).mono ?_; rintro e w' ⟨rfl, rfl⟩)))
      all_goals (try rw [Exit.noGoto_ret])
      all_goals go_returns
      all_goals exact ⟨by simp, (Bl.refl _).alloc _⟩
    | false =>
      cases q3 with
      | true =>
        go_enter Try.func98, Try.ntmps98
        go_wp2_with (go_at_call 101; refine (letters_any _).mono ?_; rintro e w' ⟨rfl, rfl⟩)
        refine wp_loop_rounds 5 ?_
        repeat any_goals (rw [rounds_succ]; go_wp2_with (first | (go_at_call 103; refine (h1 _).mono ?_; rintro e w' ⟨rfl, rfl⟩) | (go_at_call 104; refine (h2 _).mono ?_; rintro e w' ⟨rfl, rfl⟩) | (go_at_call 105; refine (h3 _).mono ?_; rintro e w' ⟨rfl, rfl⟩) | (go_at_call 106; refine (h4 _).mono ?_; rintro e w' ⟨rfl, rfl⟩)))
        all_goals (try rw [Exit.noGoto_ret])
        all_goals go_returns
        all_goals exact ⟨by simp, (Bl.refl _).alloc _⟩
      | false =>
        cases q4 with
        | true =>
          go_enter Try.func98, Try.ntmps98
          go_wp2_with (go_at_call 101; refine (letters_any _).mono ?_; rintro e w' ⟨rfl, rfl⟩)
          refine wp_loop_rounds 5 ?_
          repeat any_goals (rw [rounds_succ]; go_wp2_with (first | (go_at_call 103; refine (h1 _).mono ?_; rintro e w' ⟨rfl, rfl⟩) | (go_at_call 104; refine (h2 _).mono ?_; rintro e w' ⟨rfl, rfl⟩) | (go_at_call 105; refine (h3 _).mono ?_; rintro e w' ⟨rfl, rfl⟩) | (go_at_call 106; refine (h4 _).mono ?_; rintro e w' ⟨rfl, rfl⟩)))
          all_goals (try rw [Exit.noGoto_ret])
          all_goals go_returns
          all_goals exact ⟨by simp, (Bl.refl _).alloc _⟩
        | false =>
          go_enter Try.func98, Try.ntmps98
          go_wp2_with (go_at_call 101; refine (letters_any _).mono ?_; rintro e w' ⟨rfl, rfl⟩)
          refine wp_loop_rounds 5 ?_
          repeat any_goals (rw [rounds_succ]; go_wp2_with (first | (go_at_call 103; refine (h1 _).mono ?_; rintro e w' ⟨rfl, rfl⟩) | (go_at_call 104; refine (h2 _).mono ?_; rintro e w' ⟨rfl, rfl⟩) | (go_at_call 105; refine (h3 _).mono ?_; rintro e w' ⟨rfl, rfl⟩) | (go_at_call 106; refine (h4 _).mono ?_; rintro e w' ⟨rfl, rfl⟩)))
          all_goals (try rw [Exit.noGoto_ret])
          all_goals go_returns
          all_goals exact ⟨by simp, (Bl.refl _).alloc _⟩
theorem letter_any (r : Int) (w : World) : Calls Try.prog 98 #[.int .i32 r] w fun e w' => e = .returned (.bool (letterB r)) ∧ Bl w w' :=
  letter_of r _ _ _ _ (let1 r) (let2 r) (let3 r) (let4 r) w
end Go.Proofs.Ytmcjmdoeafhjpaa
