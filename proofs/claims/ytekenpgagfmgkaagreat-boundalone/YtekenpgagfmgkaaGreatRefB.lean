/- Towards the statements of package span (layer 4): the answers of the document, in the words of the program: products and shifts. -/
import Derived.Test.YtekenpgagfmgkaaGreatRefA
namespace Go.Proofs.YtekenpgagfmgkaaGreat
open Go.ChangeShapes Go.WideShapes Go.ChangeAt Go.RowKit
set_option linter.unusedVariables false
set_option maxRecDepth 20000

theorem quo_le (x y : Int) (hx : InU x) (hy : InU y) (h : 0 < y) : decide (x ≤ 18446744073709551615 / y) = decide (x * y ≤ 18446744073709551615) := by
  rcases Int.lt_or_le 18446744073709551615 (x * y) with k | k
  · rw [decide_eq_false (show ¬ x * y ≤ 18446744073709551615 by omega), decide_eq_false]
    intro hle
    have := (Int.le_ediv_iff_mul_le h).1 hle
    omega
  · rw [decide_eq_true k, decide_eq_true ((Int.le_ediv_iff_mul_le h).2 k)]
theorem product_z (x y : Int) (h : x = 0 ∨ y = 0) (w : World) : Calls Tryz.prog 202 #[.int .u64 x, .int .u64 y] w fun e w' => e = .returned (.tuple #[.int .u64 (IntKind.u64.wrap (x * y)), .bool (decide (x * y ≤ 18446744073709551615))]) ∧ w' = w := by
  have e0 : x * y = 0 := by rcases h with rfl | rfl <;> simp
  rw [e0]
  have e1 : IntKind.u64.wrap 0 = 0 := rfl
  rw [e1]
  rcases h with rfl | h
  · go_enter Tryz.func202, Tryz.ntmps202
    go_wp2
    go_returns
    exact ⟨by simp, rfl⟩
  · subst h
    cases e2 : (x == 0)
    all_goals
      go_enter Tryz.func202, Tryz.ntmps202
      go_wp2
      go_returns
      exact ⟨by simp, rfl⟩
theorem product_n (x y : Int) (hx : InU x) (hy : InU y) (h1 : 0 < x) (h2 : 0 < y) (w : World) : Calls Tryz.prog 202 #[.int .u64 x, .int .u64 y] w fun e w' => e = .returned (.tuple #[.int .u64 (IntKind.u64.wrap (x * y)), .bool (decide (x * y ≤ 18446744073709551615))]) ∧ w' = w.drew := by
  have b1 : (x == 0) = false := by rw [beq_eq_false_iff_ne]; omega
  have b2 : (y == 0) = false := by rw [beq_eq_false_iff_ne]; omega
  have hz : y ≠ 0 := by omega
  have hq := quo_le x y hx hy h2
  have hd : IntKind.u64.wrap (18446744073709551615 / y) = 18446744073709551615 / y := by
    have h0 : 0 ≤ 18446744073709551615 / y := Int.ediv_nonneg (by omega) (by omega)
    have h3 : 18446744073709551615 / y ≤ 18446744073709551615 := Int.ediv_le_self _ (by omega)
    exact wrap_inU ⟨h0, h3⟩
  have hd2 : (18446744073709551615 : Int).tdiv y = 18446744073709551615 / y := Int.tdiv_eq_ediv_of_nonneg (by omega)
  go_enter Tryz.func202, Tryz.ntmps202
  go_wp2
  go_region
  all_goals go_wp2
  all_goals go_returns
  all_goals exact ⟨rfl, rfl⟩
set_option maxHeartbeats 4000000 in
theorem do_mul (al ah bl bh : Int) (h1 : InU al) (h2 : InU ah) (h3 : InU bl) (h4 : InU bh) (w : World) : Calls Tryz.prog 141 #[.agg #[.int .u64 al, .int .u64 ah], .agg #[.int .u64 bl, .int .u64 bh], .int .i64 2] w fun e w' => e = .returned (.agg #[.int .u64 (eN (decide (ah < al) || decide (bh < bl)) 1 (eE (decide (al * bl ≤ 18446744073709551615)) (decide (ah * bh ≤ 18446744073709551615)) (IntKind.u64.wrap (al * bl)) (0))), .int .u64 (eN (decide (ah < al) || decide (bh < bl)) 0 (eE (decide (al * bl ≤ 18446744073709551615)) (decide (ah * bh ≤ 18446744073709551615)) (IntKind.u64.wrap (ah * bh)) (18446744073709551615)))]) ∧ Gr w w' := by
  cases e1 : decide (ah < al)
  · cases e2 : decide (bh < bl)
    · have hl : al ≤ ah := by have := of_decide_eq_false e1; omega
      have hl' : bl ≤ bh := by have := of_decide_eq_false e2; omega
      have hm : al * bl ≤ ah * bh := Int.mul_le_mul hl hl' h3.1 h2.1
      rcases (show (al = 0 ∨ bl = 0) ∨ (0 < al ∧ 0 < bl) by unfold InU at *; omega) with zl | zl
      · rcases (show (ah = 0 ∨ bh = 0) ∨ (0 < ah ∧ 0 < bh) by unfold InU at *; omega) with zh | zh
        · cases hq : decide (ah * bh ≤ 18446744073709551615)
          · exact absurd (show ah * bh ≤ 18446744073709551615 by rcases zh with h | h <;> rw [h] <;> simp) (of_decide_eq_false hq)
          ·
            rw [decide_eq_true (show al * bl ≤ 18446744073709551615 by have := of_decide_eq_true hq; omega)]
            clear hm hl hl'
            go_enter Tryz.func141, Tryz.ntmps141
            go_wp2_with (first
              | (go_at_call 49; refine (rnone_u _ _ _).mono ?_; rintro e w' ⟨rfl, hw⟩; subst hw)
              | (go_at_call 76; refine (rnothing_u _).mono ?_; rintro e w' ⟨rfl, hw⟩; subst hw)
              | (go_at_call 110; refine (rfull _).mono ?_; rintro e w' ⟨rfl, hw⟩; subst hw)
              | (go_at_call 120; refine (rspan _ _ _).mono ?_; rintro e w' ⟨rfl, hw⟩; subst hw)
              | (go_at_call_of 202 (Value.int IntKind.u64 al); refine (product_z _ _ zl _).mono ?_; rintro e w' ⟨rfl, hw⟩; subst hw)
              | (go_at_call_of 202 (Value.int IntKind.u64 ah); refine (product_z _ _ zh _).mono ?_; rintro e w' ⟨rfl, hw⟩; subst hw))
            go_returns
            exact ⟨by simp [eN, eE], by go_grown, by go_grown⟩
        · cases hq : decide (ah * bh ≤ 18446744073709551615)
          ·
            clear hm hl hl'
            go_enter Tryz.func141, Tryz.ntmps141
            go_wp2_with (first
              | (go_at_call 49; refine (rnone_u _ _ _).mono ?_; rintro e w' ⟨rfl, hw⟩; subst hw)
              | (go_at_call 76; refine (rnothing_u _).mono ?_; rintro e w' ⟨rfl, hw⟩; subst hw)
              | (go_at_call 110; refine (rfull _).mono ?_; rintro e w' ⟨rfl, hw⟩; subst hw)
              | (go_at_call 120; refine (rspan _ _ _).mono ?_; rintro e w' ⟨rfl, hw⟩; subst hw)
              | (go_at_call_of 202 (Value.int IntKind.u64 al); refine (product_z _ _ zl _).mono ?_; rintro e w' ⟨rfl, hw⟩; subst hw)
              | (go_at_call_of 202 (Value.int IntKind.u64 ah); refine (product_n _ _ h2 h4 zh.1 zh.2 _).mono ?_; rintro e w' ⟨rfl, hw⟩; subst hw))
            go_returns
            exact ⟨by simp [eN, eE], by go_grown, by go_grown⟩
          ·
            rw [decide_eq_true (show al * bl ≤ 18446744073709551615 by have := of_decide_eq_true hq; omega)]
            clear hm hl hl'
            go_enter Tryz.func141, Tryz.ntmps141
            go_wp2_with (first
              | (go_at_call 49; refine (rnone_u _ _ _).mono ?_; rintro e w' ⟨rfl, hw⟩; subst hw)
              | (go_at_call 76; refine (rnothing_u _).mono ?_; rintro e w' ⟨rfl, hw⟩; subst hw)
              | (go_at_call 110; refine (rfull _).mono ?_; rintro e w' ⟨rfl, hw⟩; subst hw)
              | (go_at_call 120; refine (rspan _ _ _).mono ?_; rintro e w' ⟨rfl, hw⟩; subst hw)
              | (go_at_call_of 202 (Value.int IntKind.u64 al); refine (product_z _ _ zl _).mono ?_; rintro e w' ⟨rfl, hw⟩; subst hw)
              | (go_at_call_of 202 (Value.int IntKind.u64 ah); refine (product_n _ _ h2 h4 zh.1 zh.2 _).mono ?_; rintro e w' ⟨rfl, hw⟩; subst hw))
            go_returns
            exact ⟨by simp [eN, eE], by go_grown, by go_grown⟩
      · rcases (show (ah = 0 ∨ bh = 0) ∨ (0 < ah ∧ 0 < bh) by unfold InU at *; omega) with zh | zh
        · cases hq : decide (ah * bh ≤ 18446744073709551615)
          · exact absurd (show ah * bh ≤ 18446744073709551615 by rcases zh with h | h <;> rw [h] <;> simp) (of_decide_eq_false hq)
          ·
            rw [decide_eq_true (show al * bl ≤ 18446744073709551615 by have := of_decide_eq_true hq; omega)]
            clear hm hl hl'
            go_enter Tryz.func141, Tryz.ntmps141
            go_wp2_with (first
              | (go_at_call 49; refine (rnone_u _ _ _).mono ?_; rintro e w' ⟨rfl, hw⟩; subst hw)
              | (go_at_call 76; refine (rnothing_u _).mono ?_; rintro e w' ⟨rfl, hw⟩; subst hw)
              | (go_at_call 110; refine (rfull _).mono ?_; rintro e w' ⟨rfl, hw⟩; subst hw)
              | (go_at_call 120; refine (rspan _ _ _).mono ?_; rintro e w' ⟨rfl, hw⟩; subst hw)
              | (go_at_call_of 202 (Value.int IntKind.u64 al); refine (product_n _ _ h1 h3 zl.1 zl.2 _).mono ?_; rintro e w' ⟨rfl, hw⟩; subst hw)
              | (go_at_call_of 202 (Value.int IntKind.u64 ah); refine (product_z _ _ zh _).mono ?_; rintro e w' ⟨rfl, hw⟩; subst hw))
            go_returns
            exact ⟨by simp [eN, eE], by go_grown, by go_grown⟩
        · cases hq : decide (ah * bh ≤ 18446744073709551615)
          ·
            clear hm hl hl'
            go_enter Tryz.func141, Tryz.ntmps141
            go_wp2_with (first
              | (go_at_call 49; refine (rnone_u _ _ _).mono ?_; rintro e w' ⟨rfl, hw⟩; subst hw)
              | (go_at_call 76; refine (rnothing_u _).mono ?_; rintro e w' ⟨rfl, hw⟩; subst hw)
              | (go_at_call 110; refine (rfull _).mono ?_; rintro e w' ⟨rfl, hw⟩; subst hw)
              | (go_at_call 120; refine (rspan _ _ _).mono ?_; rintro e w' ⟨rfl, hw⟩; subst hw)
              | (go_at_call_of 202 (Value.int IntKind.u64 al); refine (product_n _ _ h1 h3 zl.1 zl.2 _).mono ?_; rintro e w' ⟨rfl, hw⟩; subst hw)
              | (go_at_call_of 202 (Value.int IntKind.u64 ah); refine (product_n _ _ h2 h4 zh.1 zh.2 _).mono ?_; rintro e w' ⟨rfl, hw⟩; subst hw))
            go_returns
            exact ⟨by simp [eN, eE], by go_grown, by go_grown⟩
          ·
            rw [decide_eq_true (show al * bl ≤ 18446744073709551615 by have := of_decide_eq_true hq; omega)]
            clear hm hl hl'
            go_enter Tryz.func141, Tryz.ntmps141
            go_wp2_with (first
              | (go_at_call 49; refine (rnone_u _ _ _).mono ?_; rintro e w' ⟨rfl, hw⟩; subst hw)
              | (go_at_call 76; refine (rnothing_u _).mono ?_; rintro e w' ⟨rfl, hw⟩; subst hw)
              | (go_at_call 110; refine (rfull _).mono ?_; rintro e w' ⟨rfl, hw⟩; subst hw)
              | (go_at_call 120; refine (rspan _ _ _).mono ?_; rintro e w' ⟨rfl, hw⟩; subst hw)
              | (go_at_call_of 202 (Value.int IntKind.u64 al); refine (product_n _ _ h1 h3 zl.1 zl.2 _).mono ?_; rintro e w' ⟨rfl, hw⟩; subst hw)
              | (go_at_call_of 202 (Value.int IntKind.u64 ah); refine (product_n _ _ h2 h4 zh.1 zh.2 _).mono ?_; rintro e w' ⟨rfl, hw⟩; subst hw))
            go_returns
            exact ⟨by simp [eN, eE], by go_grown, by go_grown⟩
    ·
      go_enter Tryz.func141, Tryz.ntmps141
      go_wp2_with (first
        | (go_at_call 49; refine (rnone_u _ _ _).mono ?_; rintro e w' ⟨rfl, hw⟩; subst hw)
        | (go_at_call 76; refine (rnothing_u _).mono ?_; rintro e w' ⟨rfl, hw⟩; subst hw)
        | (go_at_call 110; refine (rfull _).mono ?_; rintro e w' ⟨rfl, hw⟩; subst hw)
        | (go_at_call 120; refine (rspan _ _ _).mono ?_; rintro e w' ⟨rfl, hw⟩; subst hw))
      go_returns
      exact ⟨by first | (simp [eN]; done) | (simp [eN] <;> simp only [IntKind.wrap_u64] <;> omega), by go_grown, by go_grown⟩
  ·
    go_enter Tryz.func141, Tryz.ntmps141
    go_wp2_with (first
      | (go_at_call 49; refine (rnone_u _ _ _).mono ?_; rintro e w' ⟨rfl, hw⟩; subst hw)
      | (go_at_call 76; refine (rnothing_u _).mono ?_; rintro e w' ⟨rfl, hw⟩; subst hw)
      | (go_at_call 110; refine (rfull _).mono ?_; rintro e w' ⟨rfl, hw⟩; subst hw)
      | (go_at_call 120; refine (rspan _ _ _).mono ?_; rintro e w' ⟨rfl, hw⟩; subst hw))
    go_returns
    exact ⟨by first | (simp [eN]; done) | (simp [eN] <;> simp only [IntKind.wrap_u64] <;> omega), by go_grown, by go_grown⟩
end Go.Proofs.YtekenpgagfmgkaaGreat
