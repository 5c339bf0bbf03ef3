/- Towards the statements of package span (layer 4): the answers of the document, in the words of the program: sums, differences, products, shifts. -/
import Derived.Test.YtekenpgagfmgkaaGreatSmall
namespace Go.Proofs.YtekenpgagfmgkaaGreat
open Go.ChangeShapes Go.WideShapes Go.ChangeAt Go.RowKit
set_option linter.unusedVariables false
set_option maxRecDepth 20000

set_option maxHeartbeats 4000000 in
theorem do_add (al ah bl bh : Int) (h1 : InU al) (h2 : InU ah) (h3 : InU bl) (h4 : InU bh) (w : World) : Calls Tryz.prog 141 #[.agg #[.int .u64 al, .int .u64 ah], .agg #[.int .u64 bl, .int .u64 bh], .int .i64 0] w fun e w' => e = .returned (.agg #[.int .u64 (eN (decide (ah < al) || decide (bh < bl)) 1 (eE (decide (al + bl ≤ 18446744073709551615)) (decide (ah + bh ≤ 18446744073709551615)) (IntKind.u64.wrap (al + bl)) (0))), .int .u64 (eN (decide (ah < al) || decide (bh < bl)) 0 (eE (decide (al + bl ≤ 18446744073709551615)) (decide (ah + bh ≤ 18446744073709551615)) (IntKind.u64.wrap (ah + bh)) (18446744073709551615)))]) ∧ Gr w w' := by
  unfold InU at h1 h2 h3 h4
  have s1 : IntKind.u64.wrap (18446744073709551615 - bh) = 18446744073709551615 - bh := wrap_inU (by unfold InU; omega)
  have s2 : IntKind.u64.wrap (18446744073709551615 - bl) = 18446744073709551615 - bl := wrap_inU (by unfold InU; omega)
  cases e1 : decide (ah < al)
  · cases e2 : decide (bh < bl)
    · cases hq : decide (ah + bh ≤ 18446744073709551615)
      ·
        have hq' : ¬ (ah + bh ≤ 18446744073709551615) := of_decide_eq_false hq
        have q1 : decide (18446744073709551615 - bh < ah) = true := decide_eq_true (by omega)
        go_enter Tryz.func141, Tryz.ntmps141
        go_wp2_with (first
          | (go_at_call 49; refine (rnone_u _ _ _).mono ?_; rintro e w' ⟨rfl, hw⟩; subst hw)
          | (go_at_call 76; refine (rnothing_u _).mono ?_; rintro e w' ⟨rfl, hw⟩; subst hw)
          | (go_at_call 110; refine (rfull _).mono ?_; rintro e w' ⟨rfl, hw⟩; subst hw)
          | (go_at_call 120; refine (rspan _ _ _).mono ?_; rintro e w' ⟨rfl, hw⟩; subst hw))
        go_returns
        exact ⟨by first | (simp [eN, eE]; done) | (simp [eN, eE] <;> simp only [IntKind.wrap_u64] <;> omega), by go_grown, by go_grown⟩
      · cases hp : decide (al + bl ≤ 18446744073709551615)
        ·
          have hp' : ¬ (al + bl ≤ 18446744073709551615) := of_decide_eq_false hp
          have hq' : (ah + bh ≤ 18446744073709551615) := of_decide_eq_true hq
          have q1 : decide (18446744073709551615 - bh < ah) = false := decide_eq_false (by omega)
          have q2 : decide (18446744073709551615 - bl < al) = true := decide_eq_true (by omega)
          go_enter Tryz.func141, Tryz.ntmps141
          go_wp2_with (first
            | (go_at_call 49; refine (rnone_u _ _ _).mono ?_; rintro e w' ⟨rfl, hw⟩; subst hw)
            | (go_at_call 76; refine (rnothing_u _).mono ?_; rintro e w' ⟨rfl, hw⟩; subst hw)
            | (go_at_call 110; refine (rfull _).mono ?_; rintro e w' ⟨rfl, hw⟩; subst hw)
            | (go_at_call 120; refine (rspan _ _ _).mono ?_; rintro e w' ⟨rfl, hw⟩; subst hw))
          go_returns
          exact ⟨by first | (simp [eN, eE]; done) | (simp [eN, eE] <;> simp only [IntKind.wrap_u64] <;> omega), by go_grown, by go_grown⟩
        ·
          have hp' : (al + bl ≤ 18446744073709551615) := of_decide_eq_true hp
          have hq' : (ah + bh ≤ 18446744073709551615) := of_decide_eq_true hq
          have q1 : decide (18446744073709551615 - bh < ah) = false := decide_eq_false (by omega)
          have q2 : decide (18446744073709551615 - bl < al) = false := decide_eq_false (by omega)
          go_enter Tryz.func141, Tryz.ntmps141
          go_wp2_with (first
            | (go_at_call 49; refine (rnone_u _ _ _).mono ?_; rintro e w' ⟨rfl, hw⟩; subst hw)
            | (go_at_call 76; refine (rnothing_u _).mono ?_; rintro e w' ⟨rfl, hw⟩; subst hw)
            | (go_at_call 110; refine (rfull _).mono ?_; rintro e w' ⟨rfl, hw⟩; subst hw)
            | (go_at_call 120; refine (rspan _ _ _).mono ?_; rintro e w' ⟨rfl, hw⟩; subst hw))
          go_returns
          exact ⟨by first | (simp [eN, eE]; done) | (simp [eN, eE] <;> simp only [IntKind.wrap_u64] <;> omega), by go_grown, by go_grown⟩
    ·
      go_enter Tryz.func141, Tryz.ntmps141
      go_wp2_with (first
        | (go_at_call 49; refine (rnone_u _ _ _).mono ?_; rintro e w' ⟨rfl, hw⟩; subst hw)
        | (go_at_call 76; refine (rnothing_u _).mono ?_; rintro e w' ⟨rfl, hw⟩; subst hw)
        | (go_at_call 110; refine (rfull _).mono ?_; rintro e w' ⟨rfl, hw⟩; subst hw)
        | (go_at_call 120; refine (rspan _ _ _).mono ?_; rintro e w' ⟨rfl, hw⟩; subst hw))
      go_returns
      exact ⟨by first | (simp [eN]; done) | (simp [eN] <;> simp only [IntKind.wrap_u64] <;> omega), by go_grown, by go_grown⟩
  ·
    go_enter Tryz.func141, Tryz.ntmps141
    go_wp2_with (first
      | (go_at_call 49; refine (rnone_u _ _ _).mono ?_; rintro e w' ⟨rfl, hw⟩; subst hw)
      | (go_at_call 76; refine (rnothing_u _).mono ?_; rintro e w' ⟨rfl, hw⟩; subst hw)
      | (go_at_call 110; refine (rfull _).mono ?_; rintro e w' ⟨rfl, hw⟩; subst hw)
      | (go_at_call 120; refine (rspan _ _ _).mono ?_; rintro e w' ⟨rfl, hw⟩; subst hw))
    go_returns
    exact ⟨by first | (simp [eN]; done) | (simp [eN] <;> simp only [IntKind.wrap_u64] <;> omega), by go_grown, by go_grown⟩
set_option maxHeartbeats 4000000 in
theorem do_sub (al ah bl bh : Int) (h1 : InU al) (h2 : InU ah) (h3 : InU bl) (h4 : InU bh) (w : World) : Calls Tryz.prog 141 #[.agg #[.int .u64 al, .int .u64 ah], .agg #[.int .u64 bl, .int .u64 bh], .int .i64 1] w fun e w' => e = .returned (.agg #[.int .u64 (eN (decide (ah < al) || decide (bh < bl)) 1 (eE (decide (bh ≤ al)) (decide (bl ≤ ah)) (IntKind.u64.wrap (al - bh)) (0))), .int .u64 (eN (decide (ah < al) || decide (bh < bl)) 0 (eE (decide (bh ≤ al)) (decide (bl ≤ ah)) (IntKind.u64.wrap (ah - bl)) (18446744073709551615)))]) ∧ Gr w w' := by
  unfold InU at h1 h2 h3 h4
  cases e1 : decide (ah < al)
  · cases e2 : decide (bh < bl)
    · cases hp : decide (bh ≤ al)
      ·
        have hp' : ¬ (bh ≤ al) := of_decide_eq_false hp
        have q1 : decide (al < bh) = true := decide_eq_true (by omega)
        go_enter Tryz.func141, Tryz.ntmps141
        go_wp2_with (first
          | (go_at_call 49; refine (rnone_u _ _ _).mono ?_; rintro e w' ⟨rfl, hw⟩; subst hw)
          | (go_at_call 76; refine (rnothing_u _).mono ?_; rintro e w' ⟨rfl, hw⟩; subst hw)
          | (go_at_call 110; refine (rfull _).mono ?_; rintro e w' ⟨rfl, hw⟩; subst hw)
          | (go_at_call 120; refine (rspan _ _ _).mono ?_; rintro e w' ⟨rfl, hw⟩; subst hw))
        go_returns
        exact ⟨by first | (simp [eN, eE]; done) | (simp [eN, eE] <;> simp only [IntKind.wrap_u64] <;> omega), by go_grown, by go_grown⟩
      · cases hq : decide (bl ≤ ah)
        ·
          have hp' : (bh ≤ al) := of_decide_eq_true hp
          have hq' : ¬ (bl ≤ ah) := of_decide_eq_false hq
          have q1 : decide (al < bh) = false := decide_eq_false (by omega)
          have q2 : decide (ah < bl) = true := decide_eq_true (by omega)
          go_enter Tryz.func141, Tryz.ntmps141
          go_wp2_with (first
            | (go_at_call 49; refine (rnone_u _ _ _).mono ?_; rintro e w' ⟨rfl, hw⟩; subst hw)
            | (go_at_call 76; refine (rnothing_u _).mono ?_; rintro e w' ⟨rfl, hw⟩; subst hw)
            | (go_at_call 110; refine (rfull _).mono ?_; rintro e w' ⟨rfl, hw⟩; subst hw)
            | (go_at_call 120; refine (rspan _ _ _).mono ?_; rintro e w' ⟨rfl, hw⟩; subst hw))
          go_returns
          exact ⟨by first | (simp [eN, eE]; done) | (simp [eN, eE] <;> simp only [IntKind.wrap_u64] <;> omega), by go_grown, by go_grown⟩
        ·
          have hp' : (bh ≤ al) := of_decide_eq_true hp
          have hq' : (bl ≤ ah) := of_decide_eq_true hq
          have q1 : decide (al < bh) = false := decide_eq_false (by omega)
          have q2 : decide (ah < bl) = false := decide_eq_false (by omega)
          go_enter Tryz.func141, Tryz.ntmps141
          go_wp2_with (first
            | (go_at_call 49; refine (rnone_u _ _ _).mono ?_; rintro e w' ⟨rfl, hw⟩; subst hw)
            | (go_at_call 76; refine (rnothing_u _).mono ?_; rintro e w' ⟨rfl, hw⟩; subst hw)
            | (go_at_call 110; refine (rfull _).mono ?_; rintro e w' ⟨rfl, hw⟩; subst hw)
            | (go_at_call 120; refine (rspan _ _ _).mono ?_; rintro e w' ⟨rfl, hw⟩; subst hw))
          go_returns
          exact ⟨by first | (simp [eN, eE]; done) | (simp [eN, eE] <;> simp only [IntKind.wrap_u64] <;> omega), by go_grown, by go_grown⟩
    ·
      go_enter Tryz.func141, Tryz.ntmps141
      go_wp2_with (first
        | (go_at_call 49; refine (rnone_u _ _ _).mono ?_; rintro e w' ⟨rfl, hw⟩; subst hw)
        | (go_at_call 76; refine (rnothing_u _).mono ?_; rintro e w' ⟨rfl, hw⟩; subst hw)
        | (go_at_call 110; refine (rfull _).mono ?_; rintro e w' ⟨rfl, hw⟩; subst hw)
        | (go_at_call 120; refine (rspan _ _ _).mono ?_; rintro e w' ⟨rfl, hw⟩; subst hw))
      go_returns
      exact ⟨by first | (simp [eN]; done) | (simp [eN] <;> simp only [IntKind.wrap_u64] <;> omega), by go_grown, by go_grown⟩
  ·
    go_enter Tryz.func141, Tryz.ntmps141
    go_wp2_with (first
      | (go_at_call 49; refine (rnone_u _ _ _).mono ?_; rintro e w' ⟨rfl, hw⟩; subst hw)
      | (go_at_call 76; refine (rnothing_u _).mono ?_; rintro e w' ⟨rfl, hw⟩; subst hw)
      | (go_at_call 110; refine (rfull _).mono ?_; rintro e w' ⟨rfl, hw⟩; subst hw)
      | (go_at_call 120; refine (rspan _ _ _).mono ?_; rintro e w' ⟨rfl, hw⟩; subst hw))
    go_returns
    exact ⟨by first | (simp [eN]; done) | (simp [eN] <;> simp only [IntKind.wrap_u64] <;> omega), by go_grown, by go_grown⟩
end Go.Proofs.YtekenpgagfmgkaaGreat
