/- Towards the statements of package span (layer 4): what two rows have in common, and what either has; of spans and of reaches. -/
import Derived.Test.YtcbcijibgpaipaaGreatMC
namespace Go.Proofs.YtcbcijibgpaipaaGreat
open Go.ChangeShapes Go.WideShapes Go.ChangeAt Go.RowKit
set_option linter.unusedVariables false
set_option maxRecDepth 20000

set_option maxHeartbeats 4000000 in
theorem shared_u (al ah bl bh : Int) (w : World) : Calls Tryz.prog 132 #[.agg #[.int .u64 al, .int .u64 ah], .agg #[.int .u64 bl, .int .u64 bh]] w fun e w' => e = .returned (.agg #[.int .u64 (eN (decide (min ah bh < max al bl)) 1 (max al bl)), .int .u64 (eN (decide (min ah bh < max al bl)) 0 (min ah bh))]) ∧ Gr w w' := by
  have hA : max al bl = al ∨ max al bl = bl := by omega
  rcases Int.lt_or_le al bl with h1 | h1 <;> rcases Int.lt_or_le bh ah with h2 | h2
  · rw [show max al bl = bl by omega, show min ah bh = bh by omega]
    clear hA
    cases e1 : decide (bh < bl)
    all_goals
      go_enter Tryz.func132, Tryz.ntmps132
      go_wp2_with (first
        | (go_at_call 121; refine (empty_u _ _ _).mono ?_; rintro e w' ⟨rfl, hw⟩; subst hw)
        | (go_at_call 202; refine (nothing_u _).mono ?_; rintro e w' ⟨rfl, hw⟩; subst hw))
      all_goals first | omega | skip
      all_goals go_returns
      all_goals exact ⟨by simp [eN], by go_grown, by go_grown⟩
  · rw [show max al bl = bl by omega, show min ah bh = ah by omega]
    clear hA
    cases e1 : decide (ah < bl)
    all_goals
      go_enter Tryz.func132, Tryz.ntmps132
      go_wp2_with (first
        | (go_at_call 121; refine (empty_u _ _ _).mono ?_; rintro e w' ⟨rfl, hw⟩; subst hw)
        | (go_at_call 202; refine (nothing_u _).mono ?_; rintro e w' ⟨rfl, hw⟩; subst hw))
      all_goals first | omega | skip
      all_goals go_returns
      all_goals exact ⟨by simp [eN], by go_grown, by go_grown⟩
  · rw [show max al bl = al by omega, show min ah bh = bh by omega]
    clear hA
    cases e1 : decide (bh < al)
    all_goals
      go_enter Tryz.func132, Tryz.ntmps132
      go_wp2_with (first
        | (go_at_call 121; refine (empty_u _ _ _).mono ?_; rintro e w' ⟨rfl, hw⟩; subst hw)
        | (go_at_call 202; refine (nothing_u _).mono ?_; rintro e w' ⟨rfl, hw⟩; subst hw))
      all_goals first | omega | skip
      all_goals go_returns
      all_goals exact ⟨by simp [eN], by go_grown, by go_grown⟩
  · rw [show max al bl = al by omega, show min ah bh = ah by omega]
    clear hA
    cases e1 : decide (ah < al)
    all_goals
      go_enter Tryz.func132, Tryz.ntmps132
      go_wp2_with (first
        | (go_at_call 121; refine (empty_u _ _ _).mono ?_; rintro e w' ⟨rfl, hw⟩; subst hw)
        | (go_at_call 202; refine (nothing_u _).mono ?_; rintro e w' ⟨rfl, hw⟩; subst hw))
      all_goals first | omega | skip
      all_goals go_returns
      all_goals exact ⟨by simp [eN], by go_grown, by go_grown⟩
set_option maxHeartbeats 2000000 in
theorem meet_u (al ah bl bh : Int) (w : World) : Calls Tryz.prog 67 #[.agg #[.int .u64 al, .int .u64 ah], .agg #[.int .u64 bl, .int .u64 bh]] w fun e w' => e = .returned (.agg #[.int .u64 (eN (decide (min ah bh < max al bl)) 1 (max al bl)), .int .u64 (eN (decide (min ah bh < max al bl)) 0 (min ah bh))]) ∧ Gr w w' := by
  have HX : Hid (At (((w.alloc (.cells #[.int .u64 al, .int .u64 ah] 26)).alloc (.cells #[.int .u64 bl, .int .u64 bh] 26)).alloc (.cells #[.int .u64 0, .int .u64 0] 26)) (w.heap.size + 1 + 1) (.int .u64 0) (.int .u64 0) 26) := At.newb _ (by simp) _ _ _
  go_enter Tryz.func67, Tryz.ntmps67
  go_wp2_with (first
    | (go_at_call 132; refine (shared_u _ _ _ _ _).mono ?_; rintro e w1 ⟨rfl, hg⟩; have hx := At.gr HX.out hg; have f0 := hx.f0 0; have f1 := hx.f0 1; have c0 := hx.c0; have c1 := hx.c1; have e0 := (hx.set (.int .u64 (eN (decide (min ah bh < max al bl)) 1 (max al bl))) (.int .u64 (eN (decide (min ah bh < max al bl)) 0 (min ah bh)))).c0; have e1 := (hx.set (.int .u64 (eN (decide (min ah bh < max al bl)) 1 (max al bl))) (.int .u64 (eN (decide (min ah bh < max al bl)) 0 (min ah bh)))).c1; clear hx))
  refine bodyPost_ret (by simp [results, Tryz.results67, go_sem, e0, e1]; try rfl) rfl ?_
  refine ⟨rfl, Gr.set (Gr.set (Gr.trans ?_ hg) (by omega) _) (by omega) _⟩
  exact ⟨by go_grown, by go_grown⟩
set_option maxHeartbeats 4000000 in
theorem shared_s (al ah bl bh : Int) (w : World) : Calls Tryz.prog 133 #[.agg #[.int .i64 al, .int .i64 ah], .agg #[.int .i64 bl, .int .i64 bh]] w fun e w' => e = .returned (.agg #[.int .i64 (eN (decide (min ah bh < max al bl)) 1 (max al bl)), .int .i64 (eN (decide (min ah bh < max al bl)) 0 (min ah bh))]) ∧ Gr w w' := by
  have hA : max al bl = al ∨ max al bl = bl := by omega
  rcases Int.lt_or_le al bl with h1 | h1 <;> rcases Int.lt_or_le bh ah with h2 | h2
  · rw [show max al bl = bl by omega, show min ah bh = bh by omega]
    clear hA
    cases e1 : decide (bh < bl)
    all_goals
      go_enter Tryz.func133, Tryz.ntmps133
      go_wp2_with (first
        | (go_at_call 122; refine (empty_s _ _ _).mono ?_; rintro e w' ⟨rfl, hw⟩; subst hw)
        | (go_at_call 203; refine (nothing_s _).mono ?_; rintro e w' ⟨rfl, hw⟩; subst hw))
      all_goals first | omega | skip
      all_goals go_returns
      all_goals exact ⟨by simp [eN], by go_grown, by go_grown⟩
  · rw [show max al bl = bl by omega, show min ah bh = ah by omega]
    clear hA
    cases e1 : decide (ah < bl)
    all_goals
      go_enter Tryz.func133, Tryz.ntmps133
      go_wp2_with (first
        | (go_at_call 122; refine (empty_s _ _ _).mono ?_; rintro e w' ⟨rfl, hw⟩; subst hw)
        | (go_at_call 203; refine (nothing_s _).mono ?_; rintro e w' ⟨rfl, hw⟩; subst hw))
      all_goals first | omega | skip
      all_goals go_returns
      all_goals exact ⟨by simp [eN], by go_grown, by go_grown⟩
  · rw [show max al bl = al by omega, show min ah bh = bh by omega]
    clear hA
    cases e1 : decide (bh < al)
    all_goals
      go_enter Tryz.func133, Tryz.ntmps133
      go_wp2_with (first
        | (go_at_call 122; refine (empty_s _ _ _).mono ?_; rintro e w' ⟨rfl, hw⟩; subst hw)
        | (go_at_call 203; refine (nothing_s _).mono ?_; rintro e w' ⟨rfl, hw⟩; subst hw))
      all_goals first | omega | skip
      all_goals go_returns
      all_goals exact ⟨by simp [eN], by go_grown, by go_grown⟩
  · rw [show max al bl = al by omega, show min ah bh = ah by omega]
    clear hA
    cases e1 : decide (ah < al)
    all_goals
      go_enter Tryz.func133, Tryz.ntmps133
      go_wp2_with (first
        | (go_at_call 122; refine (empty_s _ _ _).mono ?_; rintro e w' ⟨rfl, hw⟩; subst hw)
        | (go_at_call 203; refine (nothing_s _).mono ?_; rintro e w' ⟨rfl, hw⟩; subst hw))
      all_goals first | omega | skip
      all_goals go_returns
      all_goals exact ⟨by simp [eN], by go_grown, by go_grown⟩
set_option maxHeartbeats 2000000 in
theorem meet_s (al ah bl bh : Int) (w : World) : Calls Tryz.prog 68 #[.agg #[.int .i64 al, .int .i64 ah], .agg #[.int .i64 bl, .int .i64 bh]] w fun e w' => e = .returned (.agg #[.int .i64 (eN (decide (min ah bh < max al bl)) 1 (max al bl)), .int .i64 (eN (decide (min ah bh < max al bl)) 0 (min ah bh))]) ∧ Gr w w' := by
  have HX : Hid (At (((w.alloc (.cells #[.int .i64 al, .int .i64 ah] 28)).alloc (.cells #[.int .i64 bl, .int .i64 bh] 28)).alloc (.cells #[.int .i64 0, .int .i64 0] 28)) (w.heap.size + 1 + 1) (.int .i64 0) (.int .i64 0) 28) := At.newb _ (by simp) _ _ _
  go_enter Tryz.func68, Tryz.ntmps68
  go_wp2_with (first
    | (go_at_call 133; refine (shared_s _ _ _ _ _).mono ?_; rintro e w1 ⟨rfl, hg⟩; have hx := At.gr HX.out hg; have f0 := hx.f0 0; have f1 := hx.f0 1; have c0 := hx.c0; have c1 := hx.c1; have e0 := (hx.set (.int .i64 (eN (decide (min ah bh < max al bl)) 1 (max al bl))) (.int .i64 (eN (decide (min ah bh < max al bl)) 0 (min ah bh)))).c0; have e1 := (hx.set (.int .i64 (eN (decide (min ah bh < max al bl)) 1 (max al bl))) (.int .i64 (eN (decide (min ah bh < max al bl)) 0 (min ah bh)))).c1; clear hx))
  refine bodyPost_ret (by simp [results, Tryz.results68, go_sem, e0, e1]; try rfl) rfl ?_
  refine ⟨rfl, Gr.set (Gr.set (Gr.trans ?_ hg) (by omega) _) (by omega) _⟩
  exact ⟨by go_grown, by go_grown⟩
end Go.Proofs.YtcbcijibgpaipaaGreat
