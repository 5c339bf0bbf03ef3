/- Towards the statements of package span (layer 4): what two rows have in common, and what either has; of spans and of reaches. -/
import Derived.Test.YtcbcijibgpaipabGreatMC
namespace Go.Proofs.YtcbcijibgpaipabGreat
open Go.ChangeShapes Go.WideShapes Go.ChangeAt Go.RowKit
set_option linter.unusedVariables false
set_option maxRecDepth 20000

set_option maxHeartbeats 4000000 in
theorem shared_u (al ah bl bh : Int) (w : World) : Calls Tryz.prog 72 #[.agg #[.int .u64 al, .int .u64 ah], .agg #[.int .u64 bl, .int .u64 bh]] w fun e w' => e = .returned (.agg #[.int .u64 (eN (decide (min ah bh < max al bl)) 1 (max al bl)), .int .u64 (eN (decide (min ah bh < max al bl)) 0 (min ah bh))]) ∧ Gr w w' := by
  have hA : max al bl = al ∨ max al bl = bl := by omega
  rcases Int.lt_or_le al bl with h1 | h1 <;> rcases Int.lt_or_le bh ah with h2 | h2
  · rw [show max al bl = bl by omega, show min ah bh = bh by omega]
    clear hA
    cases e1 : decide (bh < bl)
    all_goals
      go_enter Tryz.func72, Tryz.ntmps72
      go_wp2_with (first
        | (go_at_call 99; refine (empty_u _ _ _).mono ?_; rintro e w' ⟨rfl, hw⟩; subst hw)
        | (go_at_call 109; refine (nothing_u _).mono ?_; rintro e w' ⟨rfl, hw⟩; subst hw))
      all_goals first | omega | skip
      all_goals go_returns
      all_goals exact ⟨by simp [eN], by go_grown, by go_grown⟩
  · rw [show max al bl = bl by omega, show min ah bh = ah by omega]
    clear hA
    cases e1 : decide (ah < bl)
    all_goals
      go_enter Tryz.func72, Tryz.ntmps72
      go_wp2_with (first
        | (go_at_call 99; refine (empty_u _ _ _).mono ?_; rintro e w' ⟨rfl, hw⟩; subst hw)
        | (go_at_call 109; refine (nothing_u _).mono ?_; rintro e w' ⟨rfl, hw⟩; subst hw))
      all_goals first | omega | skip
      all_goals go_returns
      all_goals exact ⟨by simp [eN], by go_grown, by go_grown⟩
  · rw [show max al bl = al by omega, show min ah bh = bh by omega]
    clear hA
    cases e1 : decide (bh < al)
    all_goals
      go_enter Tryz.func72, Tryz.ntmps72
      go_wp2_with (first
        | (go_at_call 99; refine (empty_u _ _ _).mono ?_; rintro e w' ⟨rfl, hw⟩; subst hw)
        | (go_at_call 109; refine (nothing_u _).mono ?_; rintro e w' ⟨rfl, hw⟩; subst hw))
      all_goals first | omega | skip
      all_goals go_returns
      all_goals exact ⟨by simp [eN], by go_grown, by go_grown⟩
  · rw [show max al bl = al by omega, show min ah bh = ah by omega]
    clear hA
    cases e1 : decide (ah < al)
    all_goals
      go_enter Tryz.func72, Tryz.ntmps72
      go_wp2_with (first
        | (go_at_call 99; refine (empty_u _ _ _).mono ?_; rintro e w' ⟨rfl, hw⟩; subst hw)
        | (go_at_call 109; refine (nothing_u _).mono ?_; rintro e w' ⟨rfl, hw⟩; subst hw))
      all_goals first | omega | skip
      all_goals go_returns
      all_goals exact ⟨by simp [eN], by go_grown, by go_grown⟩
set_option maxHeartbeats 2000000 in
theorem meet_u (al ah bl bh : Int) (w : World) : Calls Tryz.prog 25 #[.agg #[.int .u64 al, .int .u64 ah], .agg #[.int .u64 bl, .int .u64 bh]] w fun e w' => e = .returned (.agg #[.int .u64 (eN (decide (min ah bh < max al bl)) 1 (max al bl)), .int .u64 (eN (decide (min ah bh < max al bl)) 0 (min ah bh))]) ∧ Gr w w' := by
  have HX : Hid (At (((w.alloc (.cells #[.int .u64 al, .int .u64 ah] 29)).alloc (.cells #[.int .u64 bl, .int .u64 bh] 29)).alloc (.cells #[.int .u64 0, .int .u64 0] 29)) (w.heap.size + 1 + 1) (.int .u64 0) (.int .u64 0) 29) := At.newb _ (by simp) _ _ _
  go_enter Tryz.func25, Tryz.ntmps25
  go_wp2_with (first
    | (go_at_call 72; refine (shared_u _ _ _ _ _).mono ?_; rintro e w1 ⟨rfl, hg⟩; have hx := At.gr HX.out hg; have f0 := hx.f0 0; have f1 := hx.f0 1; have c0 := hx.c0; have c1 := hx.c1; have e0 := (hx.set (.int .u64 (eN (decide (min ah bh < max al bl)) 1 (max al bl))) (.int .u64 (eN (decide (min ah bh < max al bl)) 0 (min ah bh)))).c0; have e1 := (hx.set (.int .u64 (eN (decide (min ah bh < max al bl)) 1 (max al bl))) (.int .u64 (eN (decide (min ah bh < max al bl)) 0 (min ah bh)))).c1; clear hx))
  refine bodyPost_ret (by simp [results, Tryz.results25, go_sem, e0, e1]; try rfl) rfl ?_
  refine ⟨rfl, Gr.set (Gr.set (Gr.trans ?_ hg) (by omega) _) (by omega) _⟩
  exact ⟨by go_grown, by go_grown⟩
set_option maxHeartbeats 4000000 in
theorem shared_s (al ah bl bh : Int) (w : World) : Calls Tryz.prog 73 #[.agg #[.int .i64 al, .int .i64 ah], .agg #[.int .i64 bl, .int .i64 bh]] w fun e w' => e = .returned (.agg #[.int .i64 (eN (decide (min ah bh < max al bl)) 1 (max al bl)), .int .i64 (eN (decide (min ah bh < max al bl)) 0 (min ah bh))]) ∧ Gr w w' := by
  have hA : max al bl = al ∨ max al bl = bl := by omega
  rcases Int.lt_or_le al bl with h1 | h1 <;> rcases Int.lt_or_le bh ah with h2 | h2
  · rw [show max al bl = bl by omega, show min ah bh = bh by omega]
    clear hA
    cases e1 : decide (bh < bl)
    all_goals
      go_enter Tryz.func73, Tryz.ntmps73
      go_wp2_with (first
        | (go_at_call 100; refine (empty_s _ _ _).mono ?_; rintro e w' ⟨rfl, hw⟩; subst hw)
        | (go_at_call 110; refine (nothing_s _).mono ?_; rintro e w' ⟨rfl, hw⟩; subst hw))
      all_goals first | omega | skip
      all_goals go_returns
      all_goals exact ⟨by simp [eN], by go_grown, by go_grown⟩
  · rw [show max al bl = bl by omega, show min ah bh = ah by omega]
    clear hA
    cases e1 : decide (ah < bl)
    all_goals
      go_enter Tryz.func73, Tryz.ntmps73
      go_wp2_with (first
        | (go_at_call 100; refine (empty_s _ _ _).mono ?_; rintro e w' ⟨rfl, hw⟩; subst hw)
        | (go_at_call 110; refine (nothing_s _).mono ?_; rintro e w' ⟨rfl, hw⟩; subst hw))
      all_goals first | omega | skip
      all_goals go_returns
      all_goals exact ⟨by simp [eN], by go_grown, by go_grown⟩
  · rw [show max al bl = al by omega, show min ah bh = bh by omega]
    clear hA
    cases e1 : decide (bh < al)
    all_goals
      go_enter Tryz.func73, Tryz.ntmps73
      go_wp2_with (first
        | (go_at_call 100; refine (empty_s _ _ _).mono ?_; rintro e w' ⟨rfl, hw⟩; subst hw)
        | (go_at_call 110; refine (nothing_s _).mono ?_; rintro e w' ⟨rfl, hw⟩; subst hw))
      all_goals first | omega | skip
      all_goals go_returns
      all_goals exact ⟨by simp [eN], by go_grown, by go_grown⟩
  · rw [show max al bl = al by omega, show min ah bh = ah by omega]
    clear hA
    cases e1 : decide (ah < al)
    all_goals
      go_enter Tryz.func73, Tryz.ntmps73
      go_wp2_with (first
        | (go_at_call 100; refine (empty_s _ _ _).mono ?_; rintro e w' ⟨rfl, hw⟩; subst hw)
        | (go_at_call 110; refine (nothing_s _).mono ?_; rintro e w' ⟨rfl, hw⟩; subst hw))
      all_goals first | omega | skip
      all_goals go_returns
      all_goals exact ⟨by simp [eN], by go_grown, by go_grown⟩
set_option maxHeartbeats 2000000 in
theorem meet_s (al ah bl bh : Int) (w : World) : Calls Tryz.prog 26 #[.agg #[.int .i64 al, .int .i64 ah], .agg #[.int .i64 bl, .int .i64 bh]] w fun e w' => e = .returned (.agg #[.int .i64 (eN (decide (min ah bh < max al bl)) 1 (max al bl)), .int .i64 (eN (decide (min ah bh < max al bl)) 0 (min ah bh))]) ∧ Gr w w' := by
  have HX : Hid (At (((w.alloc (.cells #[.int .i64 al, .int .i64 ah] 31)).alloc (.cells #[.int .i64 bl, .int .i64 bh] 31)).alloc (.cells #[.int .i64 0, .int .i64 0] 31)) (w.heap.size + 1 + 1) (.int .i64 0) (.int .i64 0) 31) := At.newb _ (by simp) _ _ _
  go_enter Tryz.func26, Tryz.ntmps26
  go_wp2_with (first
    | (go_at_call 73; refine (shared_s _ _ _ _ _).mono ?_; rintro e w1 ⟨rfl, hg⟩; have hx := At.gr HX.out hg; have f0 := hx.f0 0; have f1 := hx.f0 1; have c0 := hx.c0; have c1 := hx.c1; have e0 := (hx.set (.int .i64 (eN (decide (min ah bh < max al bl)) 1 (max al bl))) (.int .i64 (eN (decide (min ah bh < max al bl)) 0 (min ah bh)))).c0; have e1 := (hx.set (.int .i64 (eN (decide (min ah bh < max al bl)) 1 (max al bl))) (.int .i64 (eN (decide (min ah bh < max al bl)) 0 (min ah bh)))).c1; clear hx))
  refine bodyPost_ret (by simp [results, Tryz.results26, go_sem, e0, e1]; try rfl) rfl ?_
  refine ⟨rfl, Gr.set (Gr.set (Gr.trans ?_ hg) (by omega) _) (by omega) _⟩
  exact ⟨by go_grown, by go_grown⟩
end Go.Proofs.YtcbcijibgpaipabGreat
