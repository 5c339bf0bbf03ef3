/- Towards the statements of package span (layer 4): what two spans that have numbers have in common, and what either has, with the memory that the calls leave, written out. -/
import Derived.Test.YtkfjjpdcbdbdiabSmall
namespace Go.Proofs.Ytkfjjpdcbdbdiab
open Go.ChangeShapes Go.WideShapes Go.ChangeAt Go.RowKit
set_option linter.unusedVariables false
set_option maxRecDepth 20000

set_option maxHeartbeats 4000000 in
theorem meet_y_row (al ah bl bh : Int) (hz : ¬ min ah bh < max al bl) (w : World) : Calls Try.prog 45 #[.agg #[.int .u64 al, .int .u64 ah], .agg #[.int .u64 bl, .int .u64 bh]] w fun e w' => e = .returned (.agg #[.int .u64 (max al bl), .int .u64 (min ah bh)]) ∧ w' = ((((w.alloc (.cells #[.int .u64 al, .int .u64 ah] 47)).alloc (.cells #[.int .u64 bl, .int .u64 bh] 47)).alloc (.cells #[.int .u64 (max al bl), .int .u64 (min ah bh)] 47)).alloc (.cells #[.int .u64 (max al bl), .int .u64 (min ah bh)] 47)).alloc (.cells #[.int .u64 (max al bl), .int .u64 (min ah bh)] 47) := by
  rcases Int.lt_or_le al bl with h1 | h1 <;> rcases Int.lt_or_le bh ah with h2 | h2
  · have q1 : max al bl = bl := by omega
    have q2 : min ah bh = bh := by omega
    rw [q1, q2] at hz
    rw [q1, q2]
    clear q1 q2
    have hz' : decide (bh < bl) = false := decide_eq_false hz
    clear hz
    go_enter Try.func45, Try.ntmps45
    go_wp2_with (first
      | (go_at_call 48; refine (empty_u _ _ _).mono ?_; rintro e w' ⟨rfl, hw⟩; subst hw)
      | (go_at_call 63; refine (nothing_u _).mono ?_; rintro e w' ⟨rfl, hw⟩; subst hw))
    all_goals first | omega | skip
    all_goals go_returns
    all_goals exact ⟨rfl, rfl⟩
  · have q1 : max al bl = bl := by omega
    have q2 : min ah bh = ah := by omega
    rw [q1, q2] at hz
    rw [q1, q2]
    clear q1 q2
    have hz' : decide (ah < bl) = false := decide_eq_false hz
    clear hz
    go_enter Try.func45, Try.ntmps45
    go_wp2_with (first
      | (go_at_call 48; refine (empty_u _ _ _).mono ?_; rintro e w' ⟨rfl, hw⟩; subst hw)
      | (go_at_call 63; refine (nothing_u _).mono ?_; rintro e w' ⟨rfl, hw⟩; subst hw))
    all_goals first | omega | skip
    all_goals go_returns
    all_goals exact ⟨rfl, rfl⟩
  · have q1 : max al bl = al := by omega
    have q2 : min ah bh = bh := by omega
    rw [q1, q2] at hz
    rw [q1, q2]
    clear q1 q2
    have hz' : decide (bh < al) = false := decide_eq_false hz
    clear hz
    go_enter Try.func45, Try.ntmps45
    go_wp2_with (first
      | (go_at_call 48; refine (empty_u _ _ _).mono ?_; rintro e w' ⟨rfl, hw⟩; subst hw)
      | (go_at_call 63; refine (nothing_u _).mono ?_; rintro e w' ⟨rfl, hw⟩; subst hw))
    all_goals first | omega | skip
    all_goals go_returns
    all_goals exact ⟨rfl, rfl⟩
  · have q1 : max al bl = al := by omega
    have q2 : min ah bh = ah := by omega
    rw [q1, q2] at hz
    rw [q1, q2]
    clear q1 q2
    have hz' : decide (ah < al) = false := decide_eq_false hz
    clear hz
    go_enter Try.func45, Try.ntmps45
    go_wp2_with (first
      | (go_at_call 48; refine (empty_u _ _ _).mono ?_; rintro e w' ⟨rfl, hw⟩; subst hw)
      | (go_at_call 63; refine (nothing_u _).mono ?_; rintro e w' ⟨rfl, hw⟩; subst hw))
    all_goals first | omega | skip
    all_goals go_returns
    all_goals exact ⟨rfl, rfl⟩
theorem meet_y (al ah bl bh : Int) (hz : ¬ min ah bh < max al bl) (w : World) : Calls Try.prog 13 #[.agg #[.int .u64 al, .int .u64 ah], .agg #[.int .u64 bl, .int .u64 bh]] w fun e w' => e = .returned (.agg #[.int .u64 (max al bl), .int .u64 (min ah bh)]) ∧ w' = (((((((w.alloc (.cells #[.int .u64 al, .int .u64 ah] 24)).alloc (.cells #[.int .u64 bl, .int .u64 bh] 24)).alloc (.cells #[.int .u64 (max al bl), .int .u64 (min ah bh)] 24)).alloc (.cells #[.int .u64 al, .int .u64 ah] 47)).alloc (.cells #[.int .u64 bl, .int .u64 bh] 47)).alloc (.cells #[.int .u64 (max al bl), .int .u64 (min ah bh)] 47)).alloc (.cells #[.int .u64 (max al bl), .int .u64 (min ah bh)] 47)).alloc (.cells #[.int .u64 (max al bl), .int .u64 (min ah bh)] 47) := by
  go_enter Try.func13, Try.ntmps13
  go_wp2_with (first
    | (go_at_call 45; refine (meet_y_row _ _ _ _ hz _).mono ?_; rintro e w' ⟨rfl, hw⟩; subst hw))
  go_returns
  exact ⟨rfl, rfl⟩
set_option maxHeartbeats 4000000 in
theorem meet_n_row (al ah bl bh : Int) (hz : min ah bh < max al bl) (w : World) : Calls Try.prog 45 #[.agg #[.int .u64 al, .int .u64 ah], .agg #[.int .u64 bl, .int .u64 bh]] w fun e w' => e = .returned (.agg #[.int .u64 1, .int .u64 0]) ∧ w' = (((((w.alloc (.cells #[.int .u64 al, .int .u64 ah] 47)).alloc (.cells #[.int .u64 bl, .int .u64 bh] 47)).alloc (.cells #[.int .u64 1, .int .u64 0] 47)).alloc (.cells #[.int .u64 (max al bl), .int .u64 (min ah bh)] 47)).alloc (.cells #[.int .u64 (max al bl), .int .u64 (min ah bh)] 47)).alloc (.cells #[.int .u64 1, .int .u64 0] 47) := by
  rcases Int.lt_or_le al bl with h1 | h1 <;> rcases Int.lt_or_le bh ah with h2 | h2
  · have q1 : max al bl = bl := by omega
    have q2 : min ah bh = bh := by omega
    rw [q1, q2] at hz
    rw [q1, q2]
    clear q1 q2
    have hz' : decide (bh < bl) = true := decide_eq_true hz
    clear hz
    go_enter Try.func45, Try.ntmps45
    go_wp2_with (first
      | (go_at_call 48; refine (empty_u _ _ _).mono ?_; rintro e w' ⟨rfl, hw⟩; subst hw)
      | (go_at_call 63; refine (nothing_u _).mono ?_; rintro e w' ⟨rfl, hw⟩; subst hw))
    all_goals first | omega | skip
    all_goals go_returns
    all_goals exact ⟨rfl, rfl⟩
  · have q1 : max al bl = bl := by omega
    have q2 : min ah bh = ah := by omega
    rw [q1, q2] at hz
    rw [q1, q2]
    clear q1 q2
    have hz' : decide (ah < bl) = true := decide_eq_true hz
    clear hz
    go_enter Try.func45, Try.ntmps45
    go_wp2_with (first
      | (go_at_call 48; refine (empty_u _ _ _).mono ?_; rintro e w' ⟨rfl, hw⟩; subst hw)
      | (go_at_call 63; refine (nothing_u _).mono ?_; rintro e w' ⟨rfl, hw⟩; subst hw))
    all_goals first | omega | skip
    all_goals go_returns
    all_goals exact ⟨rfl, rfl⟩
  · have q1 : max al bl = al := by omega
    have q2 : min ah bh = bh := by omega
    rw [q1, q2] at hz
    rw [q1, q2]
    clear q1 q2
    have hz' : decide (bh < al) = true := decide_eq_true hz
    clear hz
    go_enter Try.func45, Try.ntmps45
    go_wp2_with (first
      | (go_at_call 48; refine (empty_u _ _ _).mono ?_; rintro e w' ⟨rfl, hw⟩; subst hw)
      | (go_at_call 63; refine (nothing_u _).mono ?_; rintro e w' ⟨rfl, hw⟩; subst hw))
    all_goals first | omega | skip
    all_goals go_returns
    all_goals exact ⟨rfl, rfl⟩
  · have q1 : max al bl = al := by omega
    have q2 : min ah bh = ah := by omega
    rw [q1, q2] at hz
    rw [q1, q2]
    clear q1 q2
    have hz' : decide (ah < al) = true := decide_eq_true hz
    clear hz
    go_enter Try.func45, Try.ntmps45
    go_wp2_with (first
      | (go_at_call 48; refine (empty_u _ _ _).mono ?_; rintro e w' ⟨rfl, hw⟩; subst hw)
      | (go_at_call 63; refine (nothing_u _).mono ?_; rintro e w' ⟨rfl, hw⟩; subst hw))
    all_goals first | omega | skip
    all_goals go_returns
    all_goals exact ⟨rfl, rfl⟩
theorem meet_n (al ah bl bh : Int) (hz : min ah bh < max al bl) (w : World) : Calls Try.prog 13 #[.agg #[.int .u64 al, .int .u64 ah], .agg #[.int .u64 bl, .int .u64 bh]] w fun e w' => e = .returned (.agg #[.int .u64 1, .int .u64 0]) ∧ w' = ((((((((w.alloc (.cells #[.int .u64 al, .int .u64 ah] 24)).alloc (.cells #[.int .u64 bl, .int .u64 bh] 24)).alloc (.cells #[.int .u64 1, .int .u64 0] 24)).alloc (.cells #[.int .u64 al, .int .u64 ah] 47)).alloc (.cells #[.int .u64 bl, .int .u64 bh] 47)).alloc (.cells #[.int .u64 1, .int .u64 0] 47)).alloc (.cells #[.int .u64 (max al bl), .int .u64 (min ah bh)] 47)).alloc (.cells #[.int .u64 (max al bl), .int .u64 (min ah bh)] 47)).alloc (.cells #[.int .u64 1, .int .u64 0] 47) := by
  go_enter Try.func13, Try.ntmps13
  go_wp2_with (first
    | (go_at_call 45; refine (meet_n_row _ _ _ _ hz _).mono ?_; rintro e w' ⟨rfl, hw⟩; subst hw))
  go_returns
  exact ⟨rfl, rfl⟩
set_option maxHeartbeats 4000000 in
theorem join_row (al ah bl bh : Int) (n1 : al ≤ ah) (n2 : bl ≤ bh) (w : World) : Calls Try.prog 58 #[.agg #[.int .u64 al, .int .u64 ah], .agg #[.int .u64 bl, .int .u64 bh]] w fun e w' => e = .returned (.agg #[.int .u64 (min al bl), .int .u64 (max ah bh)]) ∧ w' = (((((w.alloc (.cells #[.int .u64 al, .int .u64 ah] 47)).alloc (.cells #[.int .u64 bl, .int .u64 bh] 47)).alloc (.cells #[.int .u64 (min al bl), .int .u64 (max ah bh)] 47)).alloc (.cells #[.int .u64 al, .int .u64 ah] 47)).alloc (.cells #[.int .u64 al, .int .u64 ah] 47)).alloc (.cells #[.int .u64 bl, .int .u64 bh] 47) := by
  have d1 : decide (ah < al) = false := decide_eq_false (by omega)
  have d2 : decide (bh < bl) = false := decide_eq_false (by omega)
  rcases Int.lt_or_le bl al with h1 | h1 <;> rcases Int.lt_or_le ah bh with h2 | h2
  · rw [show min al bl = bl by omega, show max ah bh = bh by omega]
    go_enter Try.func58, Try.ntmps58
    go_wp2_with (first
      | (go_at_call 48; refine (empty_u _ _ _).mono ?_; rintro e w' ⟨rfl, hw⟩; subst hw)
      | (go_at_call 63; refine (nothing_u _).mono ?_; rintro e w' ⟨rfl, hw⟩; subst hw))
    all_goals first | omega | skip
    all_goals go_returns
    all_goals exact ⟨rfl, rfl⟩
  · rw [show min al bl = bl by omega, show max ah bh = ah by omega]
    go_enter Try.func58, Try.ntmps58
    go_wp2_with (first
      | (go_at_call 48; refine (empty_u _ _ _).mono ?_; rintro e w' ⟨rfl, hw⟩; subst hw)
      | (go_at_call 63; refine (nothing_u _).mono ?_; rintro e w' ⟨rfl, hw⟩; subst hw))
    all_goals first | omega | skip
    all_goals go_returns
    all_goals exact ⟨rfl, rfl⟩
  · rw [show min al bl = al by omega, show max ah bh = bh by omega]
    go_enter Try.func58, Try.ntmps58
    go_wp2_with (first
      | (go_at_call 48; refine (empty_u _ _ _).mono ?_; rintro e w' ⟨rfl, hw⟩; subst hw)
      | (go_at_call 63; refine (nothing_u _).mono ?_; rintro e w' ⟨rfl, hw⟩; subst hw))
    all_goals first | omega | skip
    all_goals go_returns
    all_goals exact ⟨rfl, rfl⟩
  · rw [show min al bl = al by omega, show max ah bh = ah by omega]
    go_enter Try.func58, Try.ntmps58
    go_wp2_with (first
      | (go_at_call 48; refine (empty_u _ _ _).mono ?_; rintro e w' ⟨rfl, hw⟩; subst hw)
      | (go_at_call 63; refine (nothing_u _).mono ?_; rintro e w' ⟨rfl, hw⟩; subst hw))
    all_goals first | omega | skip
    all_goals go_returns
    all_goals exact ⟨rfl, rfl⟩
theorem join_y (al ah bl bh : Int) (n1 : al ≤ ah) (n2 : bl ≤ bh) (w : World) : Calls Try.prog 22 #[.agg #[.int .u64 al, .int .u64 ah], .agg #[.int .u64 bl, .int .u64 bh]] w fun e w' => e = .returned (.agg #[.int .u64 (min al bl), .int .u64 (max ah bh)]) ∧ w' = ((((((((w.alloc (.cells #[.int .u64 al, .int .u64 ah] 24)).alloc (.cells #[.int .u64 bl, .int .u64 bh] 24)).alloc (.cells #[.int .u64 (min al bl), .int .u64 (max ah bh)] 24)).alloc (.cells #[.int .u64 al, .int .u64 ah] 47)).alloc (.cells #[.int .u64 bl, .int .u64 bh] 47)).alloc (.cells #[.int .u64 (min al bl), .int .u64 (max ah bh)] 47)).alloc (.cells #[.int .u64 al, .int .u64 ah] 47)).alloc (.cells #[.int .u64 al, .int .u64 ah] 47)).alloc (.cells #[.int .u64 bl, .int .u64 bh] 47) := by
  go_enter Try.func22, Try.ntmps22
  go_wp2_with (first
    | (go_at_call 58; refine (join_row _ _ _ _ n1 n2 _).mono ?_; rintro e w' ⟨rfl, hw⟩; subst hw))
  go_returns
  exact ⟨rfl, rfl⟩
end Go.Proofs.Ytkfjjpdcbdbdiab
