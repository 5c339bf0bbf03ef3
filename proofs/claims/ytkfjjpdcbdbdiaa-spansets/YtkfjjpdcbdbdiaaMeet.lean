/- Towards the statements of package span (layer 4): what two rows have in common, and what either has; of spans and of reaches. -/
import Derived.Test.YtkfjjpdcbdbdiaaSmall
namespace Go.Proofs.Ytkfjjpdcbdbdiaa
open Go.ChangeShapes Go.WideShapes Go.ChangeAt Go.RowKit
set_option linter.unusedVariables false
set_option maxRecDepth 20000

set_option maxHeartbeats 4000000 in
theorem shared_u (al ah bl bh : Int) (w : World) : Calls Try.prog 66 #[.agg #[.int .u64 al, .int .u64 ah], .agg #[.int .u64 bl, .int .u64 bh]] w fun e w' => e = .returned (.agg #[.int .u64 (eN (decide (min ah bh < max al bl)) 1 (max al bl)), .int .u64 (eN (decide (min ah bh < max al bl)) 0 (min ah bh))]) ∧ Gr w w' := by
  have hA : max al bl = al ∨ max al bl = bl := by omega
  rcases Int.lt_or_le al bl with h1 | h1 <;> rcases Int.lt_or_le bh ah with h2 | h2
  · rw [show max al bl = bl by omega, show min ah bh = bh by omega]
    clear hA
    cases e1 : decide (bh < bl)
    all_goals
      go_enter Try.func66, Try.ntmps66
      go_wp2_with (first
        | (go_at_call 64; refine (empty_u _ _ _).mono ?_; rintro e w' ⟨rfl, hw⟩; subst hw)
        | (go_at_call 106; refine (nothing_u _).mono ?_; rintro e w' ⟨rfl, hw⟩; subst hw))
      all_goals first | omega | skip
      all_goals go_returns
      all_goals exact ⟨by simp [eN], by go_grown, by go_grown⟩
  · rw [show max al bl = bl by omega, show min ah bh = ah by omega]
    clear hA
    cases e1 : decide (ah < bl)
    all_goals
      go_enter Try.func66, Try.ntmps66
      go_wp2_with (first
        | (go_at_call 64; refine (empty_u _ _ _).mono ?_; rintro e w' ⟨rfl, hw⟩; subst hw)
        | (go_at_call 106; refine (nothing_u _).mono ?_; rintro e w' ⟨rfl, hw⟩; subst hw))
      all_goals first | omega | skip
      all_goals go_returns
      all_goals exact ⟨by simp [eN], by go_grown, by go_grown⟩
  · rw [show max al bl = al by omega, show min ah bh = bh by omega]
    clear hA
    cases e1 : decide (bh < al)
    all_goals
      go_enter Try.func66, Try.ntmps66
      go_wp2_with (first
        | (go_at_call 64; refine (empty_u _ _ _).mono ?_; rintro e w' ⟨rfl, hw⟩; subst hw)
        | (go_at_call 106; refine (nothing_u _).mono ?_; rintro e w' ⟨rfl, hw⟩; subst hw))
      all_goals first | omega | skip
      all_goals go_returns
      all_goals exact ⟨by simp [eN], by go_grown, by go_grown⟩
  · rw [show max al bl = al by omega, show min ah bh = ah by omega]
    clear hA
    cases e1 : decide (ah < al)
    all_goals
      go_enter Try.func66, Try.ntmps66
      go_wp2_with (first
        | (go_at_call 64; refine (empty_u _ _ _).mono ?_; rintro e w' ⟨rfl, hw⟩; subst hw)
        | (go_at_call 106; refine (nothing_u _).mono ?_; rintro e w' ⟨rfl, hw⟩; subst hw))
      all_goals first | omega | skip
      all_goals go_returns
      all_goals exact ⟨by simp [eN], by go_grown, by go_grown⟩
set_option maxHeartbeats 4000000 in
theorem around_u (al ah bl bh : Int) (w : World) : Calls Try.prog 69 #[.agg #[.int .u64 al, .int .u64 ah], .agg #[.int .u64 bl, .int .u64 bh]] w fun e w' => e = .returned (.agg #[.int .u64 (eN (decide (ah < al)) (eN (decide (bh < bl)) 1 bl) (eN (decide (bh < bl)) al (min al bl))), .int .u64 (eN (decide (ah < al)) (eN (decide (bh < bl)) 0 bh) (eN (decide (bh < bl)) ah (max ah bh)))]) ∧ Gr w w' := by
  cases e1 : decide (ah < al)
  · cases e2 : decide (bh < bl)
    · rcases Int.lt_or_le bl al with h1 | h1 <;> rcases Int.lt_or_le ah bh with h2 | h2
      · rw [show min al bl = bl by omega, show max ah bh = bh by omega]
        go_enter Try.func69, Try.ntmps69
        go_wp2_with (first
          | (go_at_call 64; refine (empty_u _ _ _).mono ?_; rintro e w' ⟨rfl, hw⟩; subst hw)
          | (go_at_call 106; refine (nothing_u _).mono ?_; rintro e w' ⟨rfl, hw⟩; subst hw))
        all_goals first | omega | skip
        all_goals go_returns
        all_goals exact ⟨by simp [eN], by go_grown, by go_grown⟩
      · rw [show min al bl = bl by omega, show max ah bh = ah by omega]
        go_enter Try.func69, Try.ntmps69
        go_wp2_with (first
          | (go_at_call 64; refine (empty_u _ _ _).mono ?_; rintro e w' ⟨rfl, hw⟩; subst hw)
          | (go_at_call 106; refine (nothing_u _).mono ?_; rintro e w' ⟨rfl, hw⟩; subst hw))
        all_goals first | omega | skip
        all_goals go_returns
        all_goals exact ⟨by simp [eN], by go_grown, by go_grown⟩
      · rw [show min al bl = al by omega, show max ah bh = bh by omega]
        go_enter Try.func69, Try.ntmps69
        go_wp2_with (first
          | (go_at_call 64; refine (empty_u _ _ _).mono ?_; rintro e w' ⟨rfl, hw⟩; subst hw)
          | (go_at_call 106; refine (nothing_u _).mono ?_; rintro e w' ⟨rfl, hw⟩; subst hw))
        all_goals first | omega | skip
        all_goals go_returns
        all_goals exact ⟨by simp [eN], by go_grown, by go_grown⟩
      · rw [show min al bl = al by omega, show max ah bh = ah by omega]
        go_enter Try.func69, Try.ntmps69
        go_wp2_with (first
          | (go_at_call 64; refine (empty_u _ _ _).mono ?_; rintro e w' ⟨rfl, hw⟩; subst hw)
          | (go_at_call 106; refine (nothing_u _).mono ?_; rintro e w' ⟨rfl, hw⟩; subst hw))
        all_goals first | omega | skip
        all_goals go_returns
        all_goals exact ⟨by simp [eN], by go_grown, by go_grown⟩
    ·
      go_enter Try.func69, Try.ntmps69
      go_wp2_with (first
        | (go_at_call 64; refine (empty_u _ _ _).mono ?_; rintro e w' ⟨rfl, hw⟩; subst hw)
        | (go_at_call 106; refine (nothing_u _).mono ?_; rintro e w' ⟨rfl, hw⟩; subst hw))
      all_goals first | omega | skip
      all_goals go_returns
      all_goals exact ⟨by simp [eN], by go_grown, by go_grown⟩
  · cases e2 : decide (bh < bl)
    all_goals
      go_enter Try.func69, Try.ntmps69
      go_wp2_with (first
        | (go_at_call 64; refine (empty_u _ _ _).mono ?_; rintro e w' ⟨rfl, hw⟩; subst hw)
        | (go_at_call 106; refine (nothing_u _).mono ?_; rintro e w' ⟨rfl, hw⟩; subst hw))
      all_goals first | omega | skip
      all_goals go_returns
      all_goals exact ⟨by simp [eN], by go_grown, by go_grown⟩
set_option maxHeartbeats 2000000 in
theorem meet_u (al ah bl bh : Int) (w : World) : Calls Try.prog 24 #[.agg #[.int .u64 al, .int .u64 ah], .agg #[.int .u64 bl, .int .u64 bh]] w fun e w' => e = .returned (.agg #[.int .u64 (eN (decide (min ah bh < max al bl)) 1 (max al bl)), .int .u64 (eN (decide (min ah bh < max al bl)) 0 (min ah bh))]) ∧ Gr w w' := by
  have HX : Hid (At (((w.alloc (.cells #[.int .u64 al, .int .u64 ah] 35)).alloc (.cells #[.int .u64 bl, .int .u64 bh] 35)).alloc (.cells #[.int .u64 0, .int .u64 0] 35)) (w.heap.size + 1 + 1) (.int .u64 0) (.int .u64 0) 35) := At.newb _ (by simp) _ _ _
  go_enter Try.func24, Try.ntmps24
  go_wp2_with (first
    | (go_at_call 66; refine (shared_u _ _ _ _ _).mono ?_; rintro e w1 ⟨rfl, hg⟩; have hx := At.gr HX.out hg; have f0 := hx.f0 0; have f1 := hx.f0 1; have c0 := hx.c0; have c1 := hx.c1; have e0 := (hx.set (.int .u64 (eN (decide (min ah bh < max al bl)) 1 (max al bl))) (.int .u64 (eN (decide (min ah bh < max al bl)) 0 (min ah bh)))).c0; have e1 := (hx.set (.int .u64 (eN (decide (min ah bh < max al bl)) 1 (max al bl))) (.int .u64 (eN (decide (min ah bh < max al bl)) 0 (min ah bh)))).c1; clear hx))
  refine bodyPost_ret (by simp [results, Try.results24, go_sem, e0, e1]; try rfl) rfl ?_
  refine ⟨rfl, Gr.set (Gr.set (Gr.trans ?_ hg) (by omega) _) (by omega) _⟩
  exact ⟨by go_grown, by go_grown⟩
set_option maxHeartbeats 2000000 in
theorem join_u (al ah bl bh : Int) (w : World) : Calls Try.prog 26 #[.agg #[.int .u64 al, .int .u64 ah], .agg #[.int .u64 bl, .int .u64 bh]] w fun e w' => e = .returned (.agg #[.int .u64 (eN (decide (ah < al)) (eN (decide (bh < bl)) 1 bl) (eN (decide (bh < bl)) al (min al bl))), .int .u64 (eN (decide (ah < al)) (eN (decide (bh < bl)) 0 bh) (eN (decide (bh < bl)) ah (max ah bh)))]) ∧ Gr w w' := by
  have HX : Hid (At (((w.alloc (.cells #[.int .u64 al, .int .u64 ah] 35)).alloc (.cells #[.int .u64 bl, .int .u64 bh] 35)).alloc (.cells #[.int .u64 0, .int .u64 0] 35)) (w.heap.size + 1 + 1) (.int .u64 0) (.int .u64 0) 35) := At.newb _ (by simp) _ _ _
  go_enter Try.func26, Try.ntmps26
  go_wp2_with (first
    | (go_at_call 69; refine (around_u _ _ _ _ _).mono ?_; rintro e w1 ⟨rfl, hg⟩; have hx := At.gr HX.out hg; have f0 := hx.f0 0; have f1 := hx.f0 1; have c0 := hx.c0; have c1 := hx.c1; have e0 := (hx.set (.int .u64 (eN (decide (ah < al)) (eN (decide (bh < bl)) 1 bl) (eN (decide (bh < bl)) al (min al bl)))) (.int .u64 (eN (decide (ah < al)) (eN (decide (bh < bl)) 0 bh) (eN (decide (bh < bl)) ah (max ah bh))))).c0; have e1 := (hx.set (.int .u64 (eN (decide (ah < al)) (eN (decide (bh < bl)) 1 bl) (eN (decide (bh < bl)) al (min al bl)))) (.int .u64 (eN (decide (ah < al)) (eN (decide (bh < bl)) 0 bh) (eN (decide (bh < bl)) ah (max ah bh))))).c1; clear hx))
  refine bodyPost_ret (by simp [results, Try.results26, go_sem, e0, e1]; try rfl) rfl ?_
  refine ⟨rfl, Gr.set (Gr.set (Gr.trans ?_ hg) (by omega) _) (by omega) _⟩
  exact ⟨by go_grown, by go_grown⟩
set_option maxHeartbeats 4000000 in
theorem shared_s (al ah bl bh : Int) (w : World) : Calls Try.prog 72 #[.agg #[.int .i64 al, .int .i64 ah], .agg #[.int .i64 bl, .int .i64 bh]] w fun e w' => e = .returned (.agg #[.int .i64 (eN (decide (min ah bh < max al bl)) 1 (max al bl)), .int .i64 (eN (decide (min ah bh < max al bl)) 0 (min ah bh))]) ∧ Gr w w' := by
  have hA : max al bl = al ∨ max al bl = bl := by omega
  rcases Int.lt_or_le al bl with h1 | h1 <;> rcases Int.lt_or_le bh ah with h2 | h2
  · rw [show max al bl = bl by omega, show min ah bh = bh by omega]
    clear hA
    cases e1 : decide (bh < bl)
    all_goals
      go_enter Try.func72, Try.ntmps72
      go_wp2_with (first
        | (go_at_call 70; refine (empty_s _ _ _).mono ?_; rintro e w' ⟨rfl, hw⟩; subst hw)
        | (go_at_call 107; refine (nothing_s _).mono ?_; rintro e w' ⟨rfl, hw⟩; subst hw))
      all_goals first | omega | skip
      all_goals go_returns
      all_goals exact ⟨by simp [eN], by go_grown, by go_grown⟩
  · rw [show max al bl = bl by omega, show min ah bh = ah by omega]
    clear hA
    cases e1 : decide (ah < bl)
    all_goals
      go_enter Try.func72, Try.ntmps72
      go_wp2_with (first
        | (go_at_call 70; refine (empty_s _ _ _).mono ?_; rintro e w' ⟨rfl, hw⟩; subst hw)
        | (go_at_call 107; refine (nothing_s _).mono ?_; rintro e w' ⟨rfl, hw⟩; subst hw))
      all_goals first | omega | skip
      all_goals go_returns
      all_goals exact ⟨by simp [eN], by go_grown, by go_grown⟩
  · rw [show max al bl = al by omega, show min ah bh = bh by omega]
    clear hA
    cases e1 : decide (bh < al)
    all_goals
      go_enter Try.func72, Try.ntmps72
      go_wp2_with (first
        | (go_at_call 70; refine (empty_s _ _ _).mono ?_; rintro e w' ⟨rfl, hw⟩; subst hw)
        | (go_at_call 107; refine (nothing_s _).mono ?_; rintro e w' ⟨rfl, hw⟩; subst hw))
      all_goals first | omega | skip
      all_goals go_returns
      all_goals exact ⟨by simp [eN], by go_grown, by go_grown⟩
  · rw [show max al bl = al by omega, show min ah bh = ah by omega]
    clear hA
    cases e1 : decide (ah < al)
    all_goals
      go_enter Try.func72, Try.ntmps72
      go_wp2_with (first
        | (go_at_call 70; refine (empty_s _ _ _).mono ?_; rintro e w' ⟨rfl, hw⟩; subst hw)
        | (go_at_call 107; refine (nothing_s _).mono ?_; rintro e w' ⟨rfl, hw⟩; subst hw))
      all_goals first | omega | skip
      all_goals go_returns
      all_goals exact ⟨by simp [eN], by go_grown, by go_grown⟩
set_option maxHeartbeats 4000000 in
theorem around_s (al ah bl bh : Int) (w : World) : Calls Try.prog 74 #[.agg #[.int .i64 al, .int .i64 ah], .agg #[.int .i64 bl, .int .i64 bh]] w fun e w' => e = .returned (.agg #[.int .i64 (eN (decide (ah < al)) (eN (decide (bh < bl)) 1 bl) (eN (decide (bh < bl)) al (min al bl))), .int .i64 (eN (decide (ah < al)) (eN (decide (bh < bl)) 0 bh) (eN (decide (bh < bl)) ah (max ah bh)))]) ∧ Gr w w' := by
  cases e1 : decide (ah < al)
  · cases e2 : decide (bh < bl)
    · rcases Int.lt_or_le bl al with h1 | h1 <;> rcases Int.lt_or_le ah bh with h2 | h2
      · rw [show min al bl = bl by omega, show max ah bh = bh by omega]
        go_enter Try.func74, Try.ntmps74
        go_wp2_with (first
          | (go_at_call 70; refine (empty_s _ _ _).mono ?_; rintro e w' ⟨rfl, hw⟩; subst hw)
          | (go_at_call 107; refine (nothing_s _).mono ?_; rintro e w' ⟨rfl, hw⟩; subst hw))
        all_goals first | omega | skip
        all_goals go_returns
        all_goals exact ⟨by simp [eN], by go_grown, by go_grown⟩
      · rw [show min al bl = bl by omega, show max ah bh = ah by omega]
        go_enter Try.func74, Try.ntmps74
        go_wp2_with (first
          | (go_at_call 70; refine (empty_s _ _ _).mono ?_; rintro e w' ⟨rfl, hw⟩; subst hw)
          | (go_at_call 107; refine (nothing_s _).mono ?_; rintro e w' ⟨rfl, hw⟩; subst hw))
        all_goals first | omega | skip
        all_goals go_returns
        all_goals exact ⟨by simp [eN], by go_grown, by go_grown⟩
      · rw [show min al bl = al by omega, show max ah bh = bh by omega]
        go_enter Try.func74, Try.ntmps74
        go_wp2_with (first
          | (go_at_call 70; refine (empty_s _ _ _).mono ?_; rintro e w' ⟨rfl, hw⟩; subst hw)
          | (go_at_call 107; refine (nothing_s _).mono ?_; rintro e w' ⟨rfl, hw⟩; subst hw))
        all_goals first | omega | skip
        all_goals go_returns
        all_goals exact ⟨by simp [eN], by go_grown, by go_grown⟩
      · rw [show min al bl = al by omega, show max ah bh = ah by omega]
        go_enter Try.func74, Try.ntmps74
        go_wp2_with (first
          | (go_at_call 70; refine (empty_s _ _ _).mono ?_; rintro e w' ⟨rfl, hw⟩; subst hw)
          | (go_at_call 107; refine (nothing_s _).mono ?_; rintro e w' ⟨rfl, hw⟩; subst hw))
        all_goals first | omega | skip
        all_goals go_returns
        all_goals exact ⟨by simp [eN], by go_grown, by go_grown⟩
    ·
      go_enter Try.func74, Try.ntmps74
      go_wp2_with (first
        | (go_at_call 70; refine (empty_s _ _ _).mono ?_; rintro e w' ⟨rfl, hw⟩; subst hw)
        | (go_at_call 107; refine (nothing_s _).mono ?_; rintro e w' ⟨rfl, hw⟩; subst hw))
      all_goals first | omega | skip
      all_goals go_returns
      all_goals exact ⟨by simp [eN], by go_grown, by go_grown⟩
  · cases e2 : decide (bh < bl)
    all_goals
      go_enter Try.func74, Try.ntmps74
      go_wp2_with (first
        | (go_at_call 70; refine (empty_s _ _ _).mono ?_; rintro e w' ⟨rfl, hw⟩; subst hw)
        | (go_at_call 107; refine (nothing_s _).mono ?_; rintro e w' ⟨rfl, hw⟩; subst hw))
      all_goals first | omega | skip
      all_goals go_returns
      all_goals exact ⟨by simp [eN], by go_grown, by go_grown⟩
set_option maxHeartbeats 2000000 in
theorem meet_s (al ah bl bh : Int) (w : World) : Calls Try.prog 31 #[.agg #[.int .i64 al, .int .i64 ah], .agg #[.int .i64 bl, .int .i64 bh]] w fun e w' => e = .returned (.agg #[.int .i64 (eN (decide (min ah bh < max al bl)) 1 (max al bl)), .int .i64 (eN (decide (min ah bh < max al bl)) 0 (min ah bh))]) ∧ Gr w w' := by
  have HX : Hid (At (((w.alloc (.cells #[.int .i64 al, .int .i64 ah] 37)).alloc (.cells #[.int .i64 bl, .int .i64 bh] 37)).alloc (.cells #[.int .i64 0, .int .i64 0] 37)) (w.heap.size + 1 + 1) (.int .i64 0) (.int .i64 0) 37) := At.newb _ (by simp) _ _ _
  go_enter Try.func31, Try.ntmps31
  go_wp2_with (first
    | (go_at_call 72; refine (shared_s _ _ _ _ _).mono ?_; rintro e w1 ⟨rfl, hg⟩; have hx := At.gr HX.out hg; have f0 := hx.f0 0; have f1 := hx.f0 1; have c0 := hx.c0; have c1 := hx.c1; have e0 := (hx.set (.int .i64 (eN (decide (min ah bh < max al bl)) 1 (max al bl))) (.int .i64 (eN (decide (min ah bh < max al bl)) 0 (min ah bh)))).c0; have e1 := (hx.set (.int .i64 (eN (decide (min ah bh < max al bl)) 1 (max al bl))) (.int .i64 (eN (decide (min ah bh < max al bl)) 0 (min ah bh)))).c1; clear hx))
  refine bodyPost_ret (by simp [results, Try.results31, go_sem, e0, e1]; try rfl) rfl ?_
  refine ⟨rfl, Gr.set (Gr.set (Gr.trans ?_ hg) (by omega) _) (by omega) _⟩
  exact ⟨by go_grown, by go_grown⟩
set_option maxHeartbeats 2000000 in
theorem join_s (al ah bl bh : Int) (w : World) : Calls Try.prog 33 #[.agg #[.int .i64 al, .int .i64 ah], .agg #[.int .i64 bl, .int .i64 bh]] w fun e w' => e = .returned (.agg #[.int .i64 (eN (decide (ah < al)) (eN (decide (bh < bl)) 1 bl) (eN (decide (bh < bl)) al (min al bl))), .int .i64 (eN (decide (ah < al)) (eN (decide (bh < bl)) 0 bh) (eN (decide (bh < bl)) ah (max ah bh)))]) ∧ Gr w w' := by
  have HX : Hid (At (((w.alloc (.cells #[.int .i64 al, .int .i64 ah] 37)).alloc (.cells #[.int .i64 bl, .int .i64 bh] 37)).alloc (.cells #[.int .i64 0, .int .i64 0] 37)) (w.heap.size + 1 + 1) (.int .i64 0) (.int .i64 0) 37) := At.newb _ (by simp) _ _ _
  go_enter Try.func33, Try.ntmps33
  go_wp2_with (first
    | (go_at_call 74; refine (around_s _ _ _ _ _).mono ?_; rintro e w1 ⟨rfl, hg⟩; have hx := At.gr HX.out hg; have f0 := hx.f0 0; have f1 := hx.f0 1; have c0 := hx.c0; have c1 := hx.c1; have e0 := (hx.set (.int .i64 (eN (decide (ah < al)) (eN (decide (bh < bl)) 1 bl) (eN (decide (bh < bl)) al (min al bl)))) (.int .i64 (eN (decide (ah < al)) (eN (decide (bh < bl)) 0 bh) (eN (decide (bh < bl)) ah (max ah bh))))).c0; have e1 := (hx.set (.int .i64 (eN (decide (ah < al)) (eN (decide (bh < bl)) 1 bl) (eN (decide (bh < bl)) al (min al bl)))) (.int .i64 (eN (decide (ah < al)) (eN (decide (bh < bl)) 0 bh) (eN (decide (bh < bl)) ah (max ah bh))))).c1; clear hx))
  refine bodyPost_ret (by simp [results, Try.results33, go_sem, e0, e1]; try rfl) rfl ?_
  refine ⟨rfl, Gr.set (Gr.set (Gr.trans ?_ hg) (by omega) _) (by omega) _⟩
  exact ⟨by go_grown, by go_grown⟩
end Go.Proofs.Ytkfjjpdcbdbdiaa
