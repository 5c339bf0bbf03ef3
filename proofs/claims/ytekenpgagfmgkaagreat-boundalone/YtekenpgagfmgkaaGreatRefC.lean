/- Towards the statements of package span (layer 4): the answers of the document, in the words of the program: shifts, and numbers with a sign. -/
import Derived.Test.YtekenpgagfmgkaaGreatRefA
namespace Go.Proofs.YtekenpgagfmgkaaGreat
open Go.ChangeShapes Go.WideShapes Go.ChangeAt Go.RowKit
set_option linter.unusedVariables false
set_option maxRecDepth 20000

theorem up_le (x : Int) (n : Nat) : decide (18446744073709551615 / 2 ^ n < x) = !decide (x * 2 ^ n ≤ 18446744073709551615) := by
  have hp : (0 : Int) < 2 ^ n := Int.pow_pos (by omega)
  rcases Int.lt_or_le 18446744073709551615 (x * 2 ^ n) with k | k
  · rw [decide_eq_false (show ¬ x * 2 ^ n ≤ 18446744073709551615 by omega), decide_eq_true]
    · rfl
    · rcases Int.lt_or_le (18446744073709551615 / 2 ^ n) x with h | h
      · exact h
      · have := (Int.le_ediv_iff_mul_le hp).1 h
        omega
  · rw [decide_eq_true k, decide_eq_false]
    · rfl
    · have := (Int.le_ediv_iff_mul_le hp).2 k
      omega
theorem down_zero (x : Int) (hx : InU x) : x / 2 ^ 64 = 0 := by
  unfold InU at hx
  have : (2 : Int) ^ 64 = 18446744073709551616 := by decide
  rw [this]; omega
set_option maxHeartbeats 4000000 in
theorem rshl (al ah : Int) (h1 : InU al) (h2 : InU ah) (n : Nat) (w : World) : Calls Tryz.prog 149 #[.agg #[.int .u64 al, .int .u64 ah], .int .u64 (n : Int)] w fun e w' => e = .returned (.agg #[.int .u64 (eN (decide (ah < al)) 1 (eE ((decide (n ≤ 63) && decide (al * 2 ^ n ≤ 18446744073709551615))) ((decide (n ≤ 63) && decide (ah * 2 ^ n ≤ 18446744073709551615))) (IntKind.u64.wrap (al * 2 ^ min n 64)) (0))), .int .u64 (eN (decide (ah < al)) 0 (eE ((decide (n ≤ 63) && decide (al * 2 ^ n ≤ 18446744073709551615))) ((decide (n ≤ 63) && decide (ah * 2 ^ n ≤ 18446744073709551615))) (IntKind.u64.wrap (ah * 2 ^ min n 64)) (18446744073709551615)))]) ∧ Gr w w' := by
  cases e1 : decide (ah < al)
  · have hl : al ≤ ah := by have := of_decide_eq_false e1; omega
    rcases Nat.lt_or_ge 63 n with h | h
    · have h' : decide ((63 : Int) < (n : Int)) = true := decide_eq_true (by omega)
      rw [decide_eq_false (show ¬ n ≤ 63 by omega), Bool.false_and, Bool.false_and]
      clear hl
      go_enter Tryz.func149, Tryz.ntmps149
      go_wp2_with (first
        | (go_at_call 49; refine (rnone_u _ _ _).mono ?_; rintro e w' ⟨rfl, hw⟩; subst hw)
        | (go_at_call 76; refine (rnothing_u _).mono ?_; rintro e w' ⟨rfl, hw⟩; subst hw)
        | (go_at_call 110; refine (rfull _).mono ?_; rintro e w' ⟨rfl, hw⟩; subst hw)
        | (go_at_call 120; refine (rspan _ _ _).mono ?_; rintro e w' ⟨rfl, hw⟩; subst hw))
      go_returns
      exact ⟨by first | (simp [eN, eE]; done) | (simp [eN, eE] <;> simp only [IntKind.wrap_u64] <;> omega), by go_grown, by go_grown⟩
    · have h' : decide ((63 : Int) < (n : Int)) = false := decide_eq_false (by omega)
      rw [decide_eq_true h, Bool.true_and, Bool.true_and, Nat.min_eq_left (by omega : n ≤ 64)]
      have hu := up_le ah n
      have hm : al * 2 ^ n ≤ ah * 2 ^ n := Int.mul_le_mul_of_nonneg_right hl (Int.le_of_lt (Int.pow_pos (by omega)))
      cases hq : decide (ah * 2 ^ n ≤ 18446744073709551615)
      ·
        rw [hq] at hu
        clear hm hl
        go_enter Tryz.func149, Tryz.ntmps149
        go_wp2_with (first
          | (go_at_call 49; refine (rnone_u _ _ _).mono ?_; rintro e w' ⟨rfl, hw⟩; subst hw)
          | (go_at_call 76; refine (rnothing_u _).mono ?_; rintro e w' ⟨rfl, hw⟩; subst hw)
          | (go_at_call 110; refine (rfull _).mono ?_; rintro e w' ⟨rfl, hw⟩; subst hw)
          | (go_at_call 120; refine (rspan _ _ _).mono ?_; rintro e w' ⟨rfl, hw⟩; subst hw))
        go_returns
        exact ⟨by first | (simp [eN, eE]; done) | (simp [eN, eE] <;> simp only [IntKind.wrap_u64] <;> omega), by go_grown, by go_grown⟩
      ·
        rw [hq] at hu
        rw [decide_eq_true (show al * 2 ^ n ≤ 18446744073709551615 by have := of_decide_eq_true hq; omega)]
        clear hm hl
        go_enter Tryz.func149, Tryz.ntmps149
        go_wp2_with (first
          | (go_at_call 49; refine (rnone_u _ _ _).mono ?_; rintro e w' ⟨rfl, hw⟩; subst hw)
          | (go_at_call 76; refine (rnothing_u _).mono ?_; rintro e w' ⟨rfl, hw⟩; subst hw)
          | (go_at_call 110; refine (rfull _).mono ?_; rintro e w' ⟨rfl, hw⟩; subst hw)
          | (go_at_call 120; refine (rspan _ _ _).mono ?_; rintro e w' ⟨rfl, hw⟩; subst hw))
        go_returns
        exact ⟨by first | (simp [eN, eE]; done) | (simp [eN, eE] <;> simp only [IntKind.wrap_u64] <;> omega), by go_grown, by go_grown⟩
  ·
    go_enter Tryz.func149, Tryz.ntmps149
    go_wp2_with (first
      | (go_at_call 49; refine (rnone_u _ _ _).mono ?_; rintro e w' ⟨rfl, hw⟩; subst hw)
      | (go_at_call 76; refine (rnothing_u _).mono ?_; rintro e w' ⟨rfl, hw⟩; subst hw)
      | (go_at_call 110; refine (rfull _).mono ?_; rintro e w' ⟨rfl, hw⟩; subst hw)
      | (go_at_call 120; refine (rspan _ _ _).mono ?_; rintro e w' ⟨rfl, hw⟩; subst hw))
    go_returns
    exact ⟨by first | (simp [eN]; done) | (simp [eN] <;> simp only [IntKind.wrap_u64] <;> omega), by go_grown, by go_grown⟩
set_option maxHeartbeats 4000000 in
theorem rshr (al ah : Int) (h1 : InU al) (h2 : InU ah) (n : Nat) (w : World) : Calls Tryz.prog 150 #[.agg #[.int .u64 al, .int .u64 ah], .int .u64 (n : Int)] w fun e w' => e = .returned (.agg #[.int .u64 (eN (decide (ah < al)) 1 (eE (true) (true) (al / 2 ^ min n 64) (0))), .int .u64 (eN (decide (ah < al)) 0 (eE (true) (true) (ah / 2 ^ min n 64) (18446744073709551615)))]) ∧ Gr w w' := by
  cases e1 : decide (ah < al)
  · rcases Nat.lt_or_ge 63 n with h | h
    · have h' : decide ((63 : Int) < (n : Int)) = true := decide_eq_true (by omega)
      rw [Nat.min_eq_right (by omega : 64 ≤ n), down_zero al h1, down_zero ah h2]
      go_enter Tryz.func150, Tryz.ntmps150
      go_wp2_with (first
        | (go_at_call 49; refine (rnone_u _ _ _).mono ?_; rintro e w' ⟨rfl, hw⟩; subst hw)
        | (go_at_call 76; refine (rnothing_u _).mono ?_; rintro e w' ⟨rfl, hw⟩; subst hw)
        | (go_at_call 110; refine (rfull _).mono ?_; rintro e w' ⟨rfl, hw⟩; subst hw)
        | (go_at_call 120; refine (rspan _ _ _).mono ?_; rintro e w' ⟨rfl, hw⟩; subst hw))
      go_returns
      exact ⟨by first | (simp [eN, eE]; done) | (simp [eN, eE] <;> simp only [IntKind.wrap_u64] <;> omega), by go_grown, by go_grown⟩
    · have h' : decide ((63 : Int) < (n : Int)) = false := decide_eq_false (by omega)
      rw [Nat.min_eq_left (by omega : n ≤ 64)]
      go_enter Tryz.func150, Tryz.ntmps150
      go_wp2_with (first
        | (go_at_call 49; refine (rnone_u _ _ _).mono ?_; rintro e w' ⟨rfl, hw⟩; subst hw)
        | (go_at_call 76; refine (rnothing_u _).mono ?_; rintro e w' ⟨rfl, hw⟩; subst hw)
        | (go_at_call 110; refine (rfull _).mono ?_; rintro e w' ⟨rfl, hw⟩; subst hw)
        | (go_at_call 120; refine (rspan _ _ _).mono ?_; rintro e w' ⟨rfl, hw⟩; subst hw))
      go_returns
      exact ⟨by first | (simp [eN, eE]; done) | (simp [eN, eE] <;> simp only [IntKind.wrap_u64] <;> omega), by go_grown, by go_grown⟩
  ·
    go_enter Tryz.func150, Tryz.ntmps150
    go_wp2_with (first
      | (go_at_call 49; refine (rnone_u _ _ _).mono ?_; rintro e w' ⟨rfl, hw⟩; subst hw)
      | (go_at_call 76; refine (rnothing_u _).mono ?_; rintro e w' ⟨rfl, hw⟩; subst hw)
      | (go_at_call 110; refine (rfull _).mono ?_; rintro e w' ⟨rfl, hw⟩; subst hw)
      | (go_at_call 120; refine (rspan _ _ _).mono ?_; rintro e w' ⟨rfl, hw⟩; subst hw))
    go_returns
    exact ⟨by first | (simp [eN]; done) | (simp [eN] <;> simp only [IntKind.wrap_u64] <;> omega), by go_grown, by go_grown⟩
set_option maxHeartbeats 4000000 in
theorem rsar (al ah : Int) (h1 : InS al) (h2 : InS ah) (n : Nat) (w : World) : Calls Tryz.prog 151 #[.agg #[.int .i64 al, .int .i64 ah], .int .u64 (n : Int)] w fun e w' => e = .returned (.agg #[.int .i64 (eN (decide (ah < al)) 1 (eE (true) (true) (al / 2 ^ min n 63) (-9223372036854775808))), .int .i64 (eN (decide (ah < al)) 0 (eE (true) (true) (ah / 2 ^ min n 63) (9223372036854775807)))]) ∧ Gr w w' := by
  cases e1 : decide (ah < al)
  · rcases Nat.lt_or_ge 63 n with h | h
    · have h' : (63 : Int) < (n : Int) := by omega
      rw [Nat.min_eq_right (by omega : 63 ≤ n)]
      go_enter Tryz.func151, Tryz.ntmps151
      go_wp2_with (first
        | (go_at_call 50; refine (rnone_s _ _ _).mono ?_; rintro e w' ⟨rfl, hw⟩; subst hw)
        | (go_at_call 77; refine (rnothing_s _).mono ?_; rintro e w' ⟨rfl, hw⟩; subst hw)
        | (go_at_call 111; refine (rall _).mono ?_; rintro e w' ⟨rfl, hw⟩; subst hw))
      go_returns
      exact ⟨by first | (simp [eN, eE]; done) | (simp [eN, eE] <;> simp only [IntKind.wrap_u64] <;> omega), by go_grown, by go_grown⟩
    · have h' : ¬ (63 : Int) < (n : Int) := by omega
      rw [Nat.min_eq_left h]
      go_enter Tryz.func151, Tryz.ntmps151
      go_wp2_with (first
        | (go_at_call 50; refine (rnone_s _ _ _).mono ?_; rintro e w' ⟨rfl, hw⟩; subst hw)
        | (go_at_call 77; refine (rnothing_s _).mono ?_; rintro e w' ⟨rfl, hw⟩; subst hw)
        | (go_at_call 111; refine (rall _).mono ?_; rintro e w' ⟨rfl, hw⟩; subst hw))
      go_returns
      exact ⟨by first | (simp [eN, eE]; done) | (simp [eN, eE] <;> simp only [IntKind.wrap_u64] <;> omega), by go_grown, by go_grown⟩
  ·
    go_enter Tryz.func151, Tryz.ntmps151
    go_wp2_with (first
      | (go_at_call 50; refine (rnone_s _ _ _).mono ?_; rintro e w' ⟨rfl, hw⟩; subst hw)
      | (go_at_call 77; refine (rnothing_s _).mono ?_; rintro e w' ⟨rfl, hw⟩; subst hw)
      | (go_at_call 111; refine (rall _).mono ?_; rintro e w' ⟨rfl, hw⟩; subst hw))
    go_returns
    exact ⟨by first | (simp [eN]; done) | (simp [eN] <;> simp only [IntKind.wrap_u64] <;> omega), by go_grown, by go_grown⟩
theorem sum_y (x y : Int) (hx : InS x) (hy : InS y) (h : (decide (-9223372036854775808 ≤ x + y) && decide (x + y ≤ 9223372036854775807)) = true) (w : World) : Calls Tryz.prog 203 #[.int .i64 x, .int .i64 y] w fun e w' => e = .returned (.tuple #[.int .i64 (wrap64 (x + y)), .bool true]) ∧ w' = w := by
  unfold InS at hx hy
  rw [Bool.and_eq_true] at h
  have k1 := of_decide_eq_true h.1
  have k2 := of_decide_eq_true h.2
  clear h
  have hw : wrap64 (x + y) = x + y := by simp only [wrap64]; omega
  rw [hw]
  rcases Int.lt_or_le y 0 with hn | hn
  all_goals
    go_enter Tryz.func203, Tryz.ntmps203
    go_wp2
    all_goals first | omega | skip
    all_goals go_returns
    all_goals exact ⟨by first | rfl | simp, rfl⟩
theorem sum_n (x y : Int) (hx : InS x) (hy : InS y) (h : (decide (-9223372036854775808 ≤ x + y) && decide (x + y ≤ 9223372036854775807)) = false) (w : World) : Calls Tryz.prog 203 #[.int .i64 x, .int .i64 y] w fun e w' => e = .returned (.tuple #[.int .i64 0, .bool false]) ∧ w' = w := by
  unfold InS at hx hy
  have k : ¬ (-9223372036854775808 ≤ x + y ∧ x + y ≤ 9223372036854775807) := by
    intro hh
    rw [decide_eq_true hh.1, decide_eq_true hh.2] at h
    cases h
  clear h
  rcases Int.lt_or_le y 0 with hn | hn
  all_goals
    go_enter Tryz.func203, Tryz.ntmps203
    go_wp2
    all_goals first | omega | skip
    all_goals go_returns
    all_goals exact ⟨by first | rfl | simp, rfl⟩
theorem dif_y (x y : Int) (hx : InS x) (hy : InS y) (h : (decide (-9223372036854775808 ≤ x - y) && decide (x - y ≤ 9223372036854775807)) = true) (w : World) : Calls Tryz.prog 204 #[.int .i64 x, .int .i64 y] w fun e w' => e = .returned (.tuple #[.int .i64 (wrap64 (x - y)), .bool true]) ∧ w' = w := by
  unfold InS at hx hy
  rw [Bool.and_eq_true] at h
  have k1 := of_decide_eq_true h.1
  have k2 := of_decide_eq_true h.2
  clear h
  have hw : wrap64 (x - y) = x - y := by simp only [wrap64]; omega
  rw [hw]
  rcases Int.lt_or_le y 0 with hn | hn
  all_goals
    go_enter Tryz.func204, Tryz.ntmps204
    go_wp2
    all_goals first | omega | skip
    all_goals go_returns
    all_goals exact ⟨by first | rfl | simp, rfl⟩
theorem dif_n (x y : Int) (hx : InS x) (hy : InS y) (h : (decide (-9223372036854775808 ≤ x - y) && decide (x - y ≤ 9223372036854775807)) = false) (w : World) : Calls Tryz.prog 204 #[.int .i64 x, .int .i64 y] w fun e w' => e = .returned (.tuple #[.int .i64 0, .bool false]) ∧ w' = w := by
  unfold InS at hx hy
  have k : ¬ (-9223372036854775808 ≤ x - y ∧ x - y ≤ 9223372036854775807) := by
    intro hh
    rw [decide_eq_true hh.1, decide_eq_true hh.2] at h
    cases h
  clear h
  rcases Int.lt_or_le y 0 with hn | hn
  all_goals
    go_enter Tryz.func204, Tryz.ntmps204
    go_wp2
    all_goals first | omega | skip
    all_goals go_returns
    all_goals exact ⟨by first | rfl | simp, rfl⟩
end Go.Proofs.YtekenpgagfmgkaaGreat
