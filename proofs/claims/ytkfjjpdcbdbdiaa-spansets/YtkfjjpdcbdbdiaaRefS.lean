/- Towards the statements of package span (layer 4): the answers of the document, in the words of the program: what two rows have in common, and what either has. -/
import Derived.Test.YtkfjjpdcbdbdiaaSmall
namespace Go.Proofs.Ytkfjjpdcbdbdiaa
open Go.ChangeShapes Go.WideShapes Go.ChangeAt Go.RowKit
set_option linter.unusedVariables false
set_option maxRecDepth 20000

set_option maxHeartbeats 8000000 in
theorem rmeet_u (al ah bl bh : Int) (w : World) : Calls Try.prog 25 #[.agg #[.int .u64 al, .int .u64 ah], .agg #[.int .u64 bl, .int .u64 bh]] w fun e w' => e = .returned (.agg #[.int .u64 (eN (decide (min ah bh < max al bl)) 1 (max al bl)), .int .u64 (eN (decide (min ah bh < max al bl)) 0 (min ah bh))]) ∧ Gr w w' := by
  rcases Int.lt_or_le al bl with h1 | h1 <;> rcases Int.lt_or_le bh ah with h2 | h2
  · rw [show max al bl = bl by omega, show min ah bh = bh by omega]
    cases e3 : decide (bh < bl)
    · have q1 : decide (ah < al) = false := decide_eq_false (by have := of_decide_eq_false e3; omega)
      have q2 : decide (bh < bl) = false := decide_eq_false (by have := of_decide_eq_false e3; omega)
      go_enter Try.func25, Try.ntmps25
      go_wp2_with (first
        | (go_at_call 20; refine (rnone_u _ _ _).mono ?_; rintro e w' ⟨rfl, hw⟩; subst hw)
        | (go_at_call 68; refine (rnothing_u _).mono ?_; rintro e w' ⟨rfl, hw⟩; subst hw)
        | (go_at_call 67; refine (rspan _ _ _).mono ?_; rintro e w' ⟨rfl, hw⟩; subst hw))
      all_goals first | omega | skip
      all_goals go_returns
      all_goals exact ⟨by simp [eN], by go_grown, by go_grown⟩
    · cases e1 : decide (ah < al) <;> cases e2 : decide (bh < bl)
      all_goals first
        | exact absurd (e3.symm.trans e1) (by decide)
        | exact absurd (e3.symm.trans e2) (by decide)
        | skip
      all_goals
        go_enter Try.func25, Try.ntmps25
        go_wp2_with (first
          | (go_at_call 20; refine (rnone_u _ _ _).mono ?_; rintro e w' ⟨rfl, hw⟩; subst hw)
          | (go_at_call 68; refine (rnothing_u _).mono ?_; rintro e w' ⟨rfl, hw⟩; subst hw)
          | (go_at_call 67; refine (rspan _ _ _).mono ?_; rintro e w' ⟨rfl, hw⟩; subst hw))
        all_goals first | omega | skip
        all_goals go_returns
        all_goals exact ⟨by simp [eN], by go_grown, by go_grown⟩
  · rw [show max al bl = bl by omega, show min ah bh = ah by omega]
    cases e3 : decide (ah < bl)
    · have q1 : decide (ah < al) = false := decide_eq_false (by have := of_decide_eq_false e3; omega)
      have q2 : decide (bh < bl) = false := decide_eq_false (by have := of_decide_eq_false e3; omega)
      go_enter Try.func25, Try.ntmps25
      go_wp2_with (first
        | (go_at_call 20; refine (rnone_u _ _ _).mono ?_; rintro e w' ⟨rfl, hw⟩; subst hw)
        | (go_at_call 68; refine (rnothing_u _).mono ?_; rintro e w' ⟨rfl, hw⟩; subst hw)
        | (go_at_call 67; refine (rspan _ _ _).mono ?_; rintro e w' ⟨rfl, hw⟩; subst hw))
      all_goals first | omega | skip
      all_goals go_returns
      all_goals exact ⟨by simp [eN], by go_grown, by go_grown⟩
    · cases e1 : decide (ah < al) <;> cases e2 : decide (bh < bl)
      all_goals first
        | exact absurd (e3.symm.trans e1) (by decide)
        | exact absurd (e3.symm.trans e2) (by decide)
        | skip
      all_goals
        go_enter Try.func25, Try.ntmps25
        go_wp2_with (first
          | (go_at_call 20; refine (rnone_u _ _ _).mono ?_; rintro e w' ⟨rfl, hw⟩; subst hw)
          | (go_at_call 68; refine (rnothing_u _).mono ?_; rintro e w' ⟨rfl, hw⟩; subst hw)
          | (go_at_call 67; refine (rspan _ _ _).mono ?_; rintro e w' ⟨rfl, hw⟩; subst hw))
        all_goals first | omega | skip
        all_goals go_returns
        all_goals exact ⟨by simp [eN], by go_grown, by go_grown⟩
  · rw [show max al bl = al by omega, show min ah bh = bh by omega]
    cases e3 : decide (bh < al)
    · have q1 : decide (ah < al) = false := decide_eq_false (by have := of_decide_eq_false e3; omega)
      have q2 : decide (bh < bl) = false := decide_eq_false (by have := of_decide_eq_false e3; omega)
      go_enter Try.func25, Try.ntmps25
      go_wp2_with (first
        | (go_at_call 20; refine (rnone_u _ _ _).mono ?_; rintro e w' ⟨rfl, hw⟩; subst hw)
        | (go_at_call 68; refine (rnothing_u _).mono ?_; rintro e w' ⟨rfl, hw⟩; subst hw)
        | (go_at_call 67; refine (rspan _ _ _).mono ?_; rintro e w' ⟨rfl, hw⟩; subst hw))
      all_goals first | omega | skip
      all_goals go_returns
      all_goals exact ⟨by simp [eN], by go_grown, by go_grown⟩
    · cases e1 : decide (ah < al) <;> cases e2 : decide (bh < bl)
      all_goals first
        | exact absurd (e3.symm.trans e1) (by decide)
        | exact absurd (e3.symm.trans e2) (by decide)
        | skip
      all_goals
        go_enter Try.func25, Try.ntmps25
        go_wp2_with (first
          | (go_at_call 20; refine (rnone_u _ _ _).mono ?_; rintro e w' ⟨rfl, hw⟩; subst hw)
          | (go_at_call 68; refine (rnothing_u _).mono ?_; rintro e w' ⟨rfl, hw⟩; subst hw)
          | (go_at_call 67; refine (rspan _ _ _).mono ?_; rintro e w' ⟨rfl, hw⟩; subst hw))
        all_goals first | omega | skip
        all_goals go_returns
        all_goals exact ⟨by simp [eN], by go_grown, by go_grown⟩
  · rw [show max al bl = al by omega, show min ah bh = ah by omega]
    cases e3 : decide (ah < al)
    · have q1 : decide (ah < al) = false := decide_eq_false (by have := of_decide_eq_false e3; omega)
      have q2 : decide (bh < bl) = false := decide_eq_false (by have := of_decide_eq_false e3; omega)
      go_enter Try.func25, Try.ntmps25
      go_wp2_with (first
        | (go_at_call 20; refine (rnone_u _ _ _).mono ?_; rintro e w' ⟨rfl, hw⟩; subst hw)
        | (go_at_call 68; refine (rnothing_u _).mono ?_; rintro e w' ⟨rfl, hw⟩; subst hw)
        | (go_at_call 67; refine (rspan _ _ _).mono ?_; rintro e w' ⟨rfl, hw⟩; subst hw))
      all_goals first | omega | skip
      all_goals go_returns
      all_goals exact ⟨by simp [eN], by go_grown, by go_grown⟩
    · cases e1 : decide (ah < al) <;> cases e2 : decide (bh < bl)
      all_goals first
        | exact absurd (e3.symm.trans e1) (by decide)
        | exact absurd (e3.symm.trans e2) (by decide)
        | skip
      all_goals
        go_enter Try.func25, Try.ntmps25
        go_wp2_with (first
          | (go_at_call 20; refine (rnone_u _ _ _).mono ?_; rintro e w' ⟨rfl, hw⟩; subst hw)
          | (go_at_call 68; refine (rnothing_u _).mono ?_; rintro e w' ⟨rfl, hw⟩; subst hw)
          | (go_at_call 67; refine (rspan _ _ _).mono ?_; rintro e w' ⟨rfl, hw⟩; subst hw))
        all_goals first | omega | skip
        all_goals go_returns
        all_goals exact ⟨by simp [eN], by go_grown, by go_grown⟩
set_option maxHeartbeats 8000000 in
theorem rjoin_u (al ah bl bh : Int) (w : World) : Calls Try.prog 27 #[.agg #[.int .u64 al, .int .u64 ah], .agg #[.int .u64 bl, .int .u64 bh]] w fun e w' => e = .returned (.agg #[.int .u64 (eN (decide (ah < al)) (eN (decide (bh < bl)) 1 bl) (eN (decide (bh < bl)) al (min al bl))), .int .u64 (eN (decide (ah < al)) (eN (decide (bh < bl)) 0 bh) (eN (decide (bh < bl)) ah (max ah bh)))]) ∧ Gr w w' := by
  cases e1 : decide (ah < al)
  · cases e2 : decide (bh < bl)
    · rcases Int.lt_or_le bl al with h1 | h1 <;> rcases Int.lt_or_le ah bh with h2 | h2
      · rw [show min al bl = bl by omega, show max ah bh = bh by omega]
        go_enter Try.func27, Try.ntmps27
        go_wp2_with (first
          | (go_at_call 20; refine (rnone_u _ _ _).mono ?_; rintro e w' ⟨rfl, hw⟩; subst hw)
          | (go_at_call 68; refine (rnothing_u _).mono ?_; rintro e w' ⟨rfl, hw⟩; subst hw)
          | (go_at_call 67; refine (rspan _ _ _).mono ?_; rintro e w' ⟨rfl, hw⟩; subst hw))
        all_goals first | omega | skip
        all_goals go_returns
        all_goals exact ⟨by simp [eN], by go_grown, by go_grown⟩
      · rw [show min al bl = bl by omega, show max ah bh = ah by omega]
        go_enter Try.func27, Try.ntmps27
        go_wp2_with (first
          | (go_at_call 20; refine (rnone_u _ _ _).mono ?_; rintro e w' ⟨rfl, hw⟩; subst hw)
          | (go_at_call 68; refine (rnothing_u _).mono ?_; rintro e w' ⟨rfl, hw⟩; subst hw)
          | (go_at_call 67; refine (rspan _ _ _).mono ?_; rintro e w' ⟨rfl, hw⟩; subst hw))
        all_goals first | omega | skip
        all_goals go_returns
        all_goals exact ⟨by simp [eN], by go_grown, by go_grown⟩
      · rw [show min al bl = al by omega, show max ah bh = bh by omega]
        go_enter Try.func27, Try.ntmps27
        go_wp2_with (first
          | (go_at_call 20; refine (rnone_u _ _ _).mono ?_; rintro e w' ⟨rfl, hw⟩; subst hw)
          | (go_at_call 68; refine (rnothing_u _).mono ?_; rintro e w' ⟨rfl, hw⟩; subst hw)
          | (go_at_call 67; refine (rspan _ _ _).mono ?_; rintro e w' ⟨rfl, hw⟩; subst hw))
        all_goals first | omega | skip
        all_goals go_returns
        all_goals exact ⟨by simp [eN], by go_grown, by go_grown⟩
      · rw [show min al bl = al by omega, show max ah bh = ah by omega]
        go_enter Try.func27, Try.ntmps27
        go_wp2_with (first
          | (go_at_call 20; refine (rnone_u _ _ _).mono ?_; rintro e w' ⟨rfl, hw⟩; subst hw)
          | (go_at_call 68; refine (rnothing_u _).mono ?_; rintro e w' ⟨rfl, hw⟩; subst hw)
          | (go_at_call 67; refine (rspan _ _ _).mono ?_; rintro e w' ⟨rfl, hw⟩; subst hw))
        all_goals first | omega | skip
        all_goals go_returns
        all_goals exact ⟨by simp [eN], by go_grown, by go_grown⟩
    · skip
      go_enter Try.func27, Try.ntmps27
      go_wp2_with (first
        | (go_at_call 20; refine (rnone_u _ _ _).mono ?_; rintro e w' ⟨rfl, hw⟩; subst hw)
        | (go_at_call 68; refine (rnothing_u _).mono ?_; rintro e w' ⟨rfl, hw⟩; subst hw)
        | (go_at_call 67; refine (rspan _ _ _).mono ?_; rintro e w' ⟨rfl, hw⟩; subst hw))
      all_goals first | omega | skip
      all_goals go_returns
      all_goals exact ⟨by simp [eN], by go_grown, by go_grown⟩
  · cases e2 : decide (bh < bl)
    all_goals
      go_enter Try.func27, Try.ntmps27
      go_wp2_with (first
        | (go_at_call 20; refine (rnone_u _ _ _).mono ?_; rintro e w' ⟨rfl, hw⟩; subst hw)
        | (go_at_call 68; refine (rnothing_u _).mono ?_; rintro e w' ⟨rfl, hw⟩; subst hw)
        | (go_at_call 67; refine (rspan _ _ _).mono ?_; rintro e w' ⟨rfl, hw⟩; subst hw))
      all_goals first | omega | skip
      all_goals go_returns
      all_goals exact ⟨by simp [eN], by go_grown, by go_grown⟩
set_option maxHeartbeats 8000000 in
theorem rmeet_s (al ah bl bh : Int) (w : World) : Calls Try.prog 32 #[.agg #[.int .i64 al, .int .i64 ah], .agg #[.int .i64 bl, .int .i64 bh]] w fun e w' => e = .returned (.agg #[.int .i64 (eN (decide (min ah bh < max al bl)) 1 (max al bl)), .int .i64 (eN (decide (min ah bh < max al bl)) 0 (min ah bh))]) ∧ Gr w w' := by
  rcases Int.lt_or_le al bl with h1 | h1 <;> rcases Int.lt_or_le bh ah with h2 | h2
  · rw [show max al bl = bl by omega, show min ah bh = bh by omega]
    cases e3 : decide (bh < bl)
    · have q1 : decide (ah < al) = false := decide_eq_false (by have := of_decide_eq_false e3; omega)
      have q2 : decide (bh < bl) = false := decide_eq_false (by have := of_decide_eq_false e3; omega)
      go_enter Try.func32, Try.ntmps32
      go_wp2_with (first
        | (go_at_call 29; refine (rnone_s _ _ _).mono ?_; rintro e w' ⟨rfl, hw⟩; subst hw)
        | (go_at_call 73; refine (rnothing_s _).mono ?_; rintro e w' ⟨rfl, hw⟩; subst hw))
      all_goals first | omega | skip
      all_goals go_returns
      all_goals exact ⟨by simp [eN], by go_grown, by go_grown⟩
    · cases e1 : decide (ah < al) <;> cases e2 : decide (bh < bl)
      all_goals first
        | exact absurd (e3.symm.trans e1) (by decide)
        | exact absurd (e3.symm.trans e2) (by decide)
        | skip
      all_goals
        go_enter Try.func32, Try.ntmps32
        go_wp2_with (first
          | (go_at_call 29; refine (rnone_s _ _ _).mono ?_; rintro e w' ⟨rfl, hw⟩; subst hw)
          | (go_at_call 73; refine (rnothing_s _).mono ?_; rintro e w' ⟨rfl, hw⟩; subst hw))
        all_goals first | omega | skip
        all_goals go_returns
        all_goals exact ⟨by simp [eN], by go_grown, by go_grown⟩
  · rw [show max al bl = bl by omega, show min ah bh = ah by omega]
    cases e3 : decide (ah < bl)
    · have q1 : decide (ah < al) = false := decide_eq_false (by have := of_decide_eq_false e3; omega)
      have q2 : decide (bh < bl) = false := decide_eq_false (by have := of_decide_eq_false e3; omega)
      go_enter Try.func32, Try.ntmps32
      go_wp2_with (first
        | (go_at_call 29; refine (rnone_s _ _ _).mono ?_; rintro e w' ⟨rfl, hw⟩; subst hw)
        | (go_at_call 73; refine (rnothing_s _).mono ?_; rintro e w' ⟨rfl, hw⟩; subst hw))
      all_goals first | omega | skip
      all_goals go_returns
      all_goals exact ⟨by simp [eN], by go_grown, by go_grown⟩
    · cases e1 : decide (ah < al) <;> cases e2 : decide (bh < bl)
      all_goals first
        | exact absurd (e3.symm.trans e1) (by decide)
        | exact absurd (e3.symm.trans e2) (by decide)
        | skip
      all_goals
        go_enter Try.func32, Try.ntmps32
        go_wp2_with (first
          | (go_at_call 29; refine (rnone_s _ _ _).mono ?_; rintro e w' ⟨rfl, hw⟩; subst hw)
          | (go_at_call 73; refine (rnothing_s _).mono ?_; rintro e w' ⟨rfl, hw⟩; subst hw))
        all_goals first | omega | skip
        all_goals go_returns
        all_goals exact ⟨by simp [eN], by go_grown, by go_grown⟩
  · rw [show max al bl = al by omega, show min ah bh = bh by omega]
    cases e3 : decide (bh < al)
    · have q1 : decide (ah < al) = false := decide_eq_false (by have := of_decide_eq_false e3; omega)
      have q2 : decide (bh < bl) = false := decide_eq_false (by have := of_decide_eq_false e3; omega)
      go_enter Try.func32, Try.ntmps32
      go_wp2_with (first
        | (go_at_call 29; refine (rnone_s _ _ _).mono ?_; rintro e w' ⟨rfl, hw⟩; subst hw)
        | (go_at_call 73; refine (rnothing_s _).mono ?_; rintro e w' ⟨rfl, hw⟩; subst hw))
      all_goals first | omega | skip
      all_goals go_returns
      all_goals exact ⟨by simp [eN], by go_grown, by go_grown⟩
    · cases e1 : decide (ah < al) <;> cases e2 : decide (bh < bl)
      all_goals first
        | exact absurd (e3.symm.trans e1) (by decide)
        | exact absurd (e3.symm.trans e2) (by decide)
        | skip
      all_goals
        go_enter Try.func32, Try.ntmps32
        go_wp2_with (first
          | (go_at_call 29; refine (rnone_s _ _ _).mono ?_; rintro e w' ⟨rfl, hw⟩; subst hw)
          | (go_at_call 73; refine (rnothing_s _).mono ?_; rintro e w' ⟨rfl, hw⟩; subst hw))
        all_goals first | omega | skip
        all_goals go_returns
        all_goals exact ⟨by simp [eN], by go_grown, by go_grown⟩
  · rw [show max al bl = al by omega, show min ah bh = ah by omega]
    cases e3 : decide (ah < al)
    · have q1 : decide (ah < al) = false := decide_eq_false (by have := of_decide_eq_false e3; omega)
      have q2 : decide (bh < bl) = false := decide_eq_false (by have := of_decide_eq_false e3; omega)
      go_enter Try.func32, Try.ntmps32
      go_wp2_with (first
        | (go_at_call 29; refine (rnone_s _ _ _).mono ?_; rintro e w' ⟨rfl, hw⟩; subst hw)
        | (go_at_call 73; refine (rnothing_s _).mono ?_; rintro e w' ⟨rfl, hw⟩; subst hw))
      all_goals first | omega | skip
      all_goals go_returns
      all_goals exact ⟨by simp [eN], by go_grown, by go_grown⟩
    · cases e1 : decide (ah < al) <;> cases e2 : decide (bh < bl)
      all_goals first
        | exact absurd (e3.symm.trans e1) (by decide)
        | exact absurd (e3.symm.trans e2) (by decide)
        | skip
      all_goals
        go_enter Try.func32, Try.ntmps32
        go_wp2_with (first
          | (go_at_call 29; refine (rnone_s _ _ _).mono ?_; rintro e w' ⟨rfl, hw⟩; subst hw)
          | (go_at_call 73; refine (rnothing_s _).mono ?_; rintro e w' ⟨rfl, hw⟩; subst hw))
        all_goals first | omega | skip
        all_goals go_returns
        all_goals exact ⟨by simp [eN], by go_grown, by go_grown⟩
set_option maxHeartbeats 8000000 in
theorem rjoin_s (al ah bl bh : Int) (w : World) : Calls Try.prog 34 #[.agg #[.int .i64 al, .int .i64 ah], .agg #[.int .i64 bl, .int .i64 bh]] w fun e w' => e = .returned (.agg #[.int .i64 (eN (decide (ah < al)) (eN (decide (bh < bl)) 1 bl) (eN (decide (bh < bl)) al (min al bl))), .int .i64 (eN (decide (ah < al)) (eN (decide (bh < bl)) 0 bh) (eN (decide (bh < bl)) ah (max ah bh)))]) ∧ Gr w w' := by
  cases e1 : decide (ah < al)
  · cases e2 : decide (bh < bl)
    · rcases Int.lt_or_le bl al with h1 | h1 <;> rcases Int.lt_or_le ah bh with h2 | h2
      · rw [show min al bl = bl by omega, show max ah bh = bh by omega]
        go_enter Try.func34, Try.ntmps34
        go_wp2_with (first
          | (go_at_call 29; refine (rnone_s _ _ _).mono ?_; rintro e w' ⟨rfl, hw⟩; subst hw)
          | (go_at_call 73; refine (rnothing_s _).mono ?_; rintro e w' ⟨rfl, hw⟩; subst hw))
        all_goals first | omega | skip
        all_goals go_returns
        all_goals exact ⟨by simp [eN], by go_grown, by go_grown⟩
      · rw [show min al bl = bl by omega, show max ah bh = ah by omega]
        go_enter Try.func34, Try.ntmps34
        go_wp2_with (first
          | (go_at_call 29; refine (rnone_s _ _ _).mono ?_; rintro e w' ⟨rfl, hw⟩; subst hw)
          | (go_at_call 73; refine (rnothing_s _).mono ?_; rintro e w' ⟨rfl, hw⟩; subst hw))
        all_goals first | omega | skip
        all_goals go_returns
        all_goals exact ⟨by simp [eN], by go_grown, by go_grown⟩
      · rw [show min al bl = al by omega, show max ah bh = bh by omega]
        go_enter Try.func34, Try.ntmps34
        go_wp2_with (first
          | (go_at_call 29; refine (rnone_s _ _ _).mono ?_; rintro e w' ⟨rfl, hw⟩; subst hw)
          | (go_at_call 73; refine (rnothing_s _).mono ?_; rintro e w' ⟨rfl, hw⟩; subst hw))
        all_goals first | omega | skip
        all_goals go_returns
        all_goals exact ⟨by simp [eN], by go_grown, by go_grown⟩
      · rw [show min al bl = al by omega, show max ah bh = ah by omega]
        go_enter Try.func34, Try.ntmps34
        go_wp2_with (first
          | (go_at_call 29; refine (rnone_s _ _ _).mono ?_; rintro e w' ⟨rfl, hw⟩; subst hw)
          | (go_at_call 73; refine (rnothing_s _).mono ?_; rintro e w' ⟨rfl, hw⟩; subst hw))
        all_goals first | omega | skip
        all_goals go_returns
        all_goals exact ⟨by simp [eN], by go_grown, by go_grown⟩
    · skip
      go_enter Try.func34, Try.ntmps34
      go_wp2_with (first
        | (go_at_call 29; refine (rnone_s _ _ _).mono ?_; rintro e w' ⟨rfl, hw⟩; subst hw)
        | (go_at_call 73; refine (rnothing_s _).mono ?_; rintro e w' ⟨rfl, hw⟩; subst hw))
      all_goals first | omega | skip
      all_goals go_returns
      all_goals exact ⟨by simp [eN], by go_grown, by go_grown⟩
  · cases e2 : decide (bh < bl)
    all_goals
      go_enter Try.func34, Try.ntmps34
      go_wp2_with (first
        | (go_at_call 29; refine (rnone_s _ _ _).mono ?_; rintro e w' ⟨rfl, hw⟩; subst hw)
        | (go_at_call 73; refine (rnothing_s _).mono ?_; rintro e w' ⟨rfl, hw⟩; subst hw))
      all_goals first | omega | skip
      all_goals go_returns
      all_goals exact ⟨by simp [eN], by go_grown, by go_grown⟩
end Go.Proofs.Ytkfjjpdcbdbdiaa
