/- Towards the statements of package span (layer 4): spans as reaches, and the other way, of the program and of the document; sums and differences of reaches in the document. -/
import Derived.Test.YtekenpgagfmgkaaGreatTake
import Derived.Test.YtekenpgagfmgkaaGreatRefC
namespace Go.Proofs.YtekenpgagfmgkaaGreat
open Go.ChangeShapes Go.WideShapes Go.ChangeAt Go.RowKit
set_option linter.unusedVariables false
set_option maxRecDepth 20000

set_option maxHeartbeats 2000000 in
theorem sign_any (al ah : Int) (w : World) : Calls Tryz.prog 86 #[.agg #[.int .u64 al, .int .u64 ah]] w fun e w' => e = .returned (.agg #[.int .i64 (eN (decide (ah < al)) 1 (eN (decide (wrap64 ah < wrap64 al)) (-9223372036854775808) (wrap64 al))), .int .i64 (eN (decide (ah < al)) 0 (eN (decide (wrap64 ah < wrap64 al)) (9223372036854775807) (wrap64 ah)))]) ∧ Gr w w' := by
  go_enter Tryz.func86, Tryz.ntmps86
  go_wp2_with fail
  have HA : Hid (At ((w.alloc (.cells #[.int .u64 al, .int .u64 ah] 26)).alloc (.cells #[.int .i64 0, .int .i64 0] 28)) w.heap.size (.int .u64 al) (.int .u64 ah) 26) := (At.newb _ rfl _ _ _).alloc _
  have HX : Hid (At ((w.alloc (.cells #[.int .u64 al, .int .u64 ah] 26)).alloc (.cells #[.int .i64 0, .int .i64 0] 28)) (w.heap.size + 1) (.int .i64 0) (.int .i64 0) 28) := At.newb _ (by simp) _ _ _
  have HF : Hid (Gr w ((w.alloc (.cells #[.int .u64 al, .int .u64 ah] 26)).alloc (.cells #[.int .i64 0, .int .i64 0] 28))) := (⟨by go_grown, by go_grown⟩ : Gr w _)
  revert HA HX HF
  generalize ((w.alloc (.cells #[.int .u64 al, .int .u64 ah] 26)).alloc (.cells #[.int .i64 0, .int .i64 0] 28)) = W
  intro HA HX HF
  have a0 := HA.out.c0
  have a1 := HA.out.c1
  go_region_held3 (fun w' => w'.cell? ⟨w.heap.size, 0, none⟩ = some (.int .u64 al) ∧ w'.cell? ⟨w.heap.size, 1, none⟩ = some (.int .u64 ah)) ((refine ⟨?_, ?_⟩ <;> repeat (with_reducible (first | assumption | apply cell_al | apply cell_dr | (refine cell_gr (by assumption) ?_) | (refine cell_st (by simp <;> omega) ?_)))))
    (first
    | (go_at_call 109; refine (whole_s _).mono ?_; rintro e w' ⟨rfl, hw⟩; subst hw)
    | (go_at_call 170; refine (taken_sign _ _ _ _ _).mono ?_; rintro e w1 ⟨rfl, hg⟩; have hx : At w1 (w.heap.size + 1) (.int .i64 0) (.int .i64 0) 28 := At.gr (by repeat (with_reducible (first | exact HX.out | apply At.drew | apply At.alloc))) hg; have hG : Hid (Gr w w1) := Gr.trans (by repeat (with_reducible (first | exact HF.out | apply Gr.drew | apply Gr.alloc))) hg; have f0 := hx.f0 0; have f1 := hx.f0 1; have c0 := hx.c0; have c1 := hx.c1; have e0 := (hx.set (.int .i64 (eN (decide (ah < al)) 1 (eN (decide (wrap64 ah < wrap64 al)) (-9223372036854775808) (wrap64 al)))) (.int .i64 (eN (decide (ah < al)) 0 (eN (decide (wrap64 ah < wrap64 al)) (9223372036854775807) (wrap64 ah))))).c0; have e1 := (hx.set (.int .i64 (eN (decide (ah < al)) 1 (eN (decide (wrap64 ah < wrap64 al)) (-9223372036854775808) (wrap64 al)))) (.int .i64 (eN (decide (ah < al)) 0 (eN (decide (wrap64 ah < wrap64 al)) (9223372036854775807) (wrap64 ah))))).c1; clear hx))
  all_goals go_wp2_with fail
  all_goals refine bodyPost_ret (by simp [results, Tryz.results86, go_sem, e0, e1]; try rfl) rfl ?_
  all_goals exact ⟨rfl, (hG.out.set (by omega) _).set (by omega) _⟩
set_option maxHeartbeats 4000000 in
theorem rsign (al ah : Int) (h1 : InU al) (h2 : InU ah) (w : World) : Calls Tryz.prog 102 #[.agg #[.int .u64 al, .int .u64 ah]] w fun e w' => e = .returned (.agg #[.int .i64 (eN (decide (ah < al)) 1 (eN (decide (wrap64 ah < wrap64 al)) (-9223372036854775808) (wrap64 al))), .int .i64 (eN (decide (ah < al)) 0 (eN (decide (wrap64 ah < wrap64 al)) (9223372036854775807) (wrap64 ah)))]) ∧ Gr w w' := by
  cases e1 : decide (ah < al)
  · have hl := of_decide_eq_false e1
    have b1 := h1
    have b2 := h2
    unfold InU at b1 b2
    cases p1 : decide (al < 9223372036854775808)
    · have p1' := of_decide_eq_false p1
      have p2 : decide (ah < 9223372036854775808) = false := decide_eq_false (by omega)
      have hk : decide (wrap64 ah < wrap64 al) = false := by rw [decide_eq_false]; simp only [wrap64]; omega
      rw [hk]
      clear hl p1' b1 b2 hk
      go_enter Tryz.func102, Tryz.ntmps102
      go_wp2_with (first
        | (go_at_call 49; refine (rnone_u _ _ _).mono ?_; rintro e w' ⟨rfl, hw⟩; subst hw)
        | (go_at_call 77; refine (rnothing_s _).mono ?_; rintro e w' ⟨rfl, hw⟩; subst hw)
        | (go_at_call 111; refine (rall _).mono ?_; rintro e w' ⟨rfl, hw⟩; subst hw))
      go_returns
      exact ⟨by first | (simp [eN]; done) | (simp [eN] <;> simp only [IntKind.wrap_u64] <;> omega), by go_grown, by go_grown⟩
    · have p1' := of_decide_eq_true p1
      cases p2 : decide (ah < 9223372036854775808)
      · have p2' := of_decide_eq_false p2
        have hk : decide (wrap64 ah < wrap64 al) = true := by rw [decide_eq_true]; simp only [wrap64]; omega
        rw [hk]
        clear hl p1' p2' b1 b2 hk
        go_enter Tryz.func102, Tryz.ntmps102
        go_wp2_with (first
          | (go_at_call 49; refine (rnone_u _ _ _).mono ?_; rintro e w' ⟨rfl, hw⟩; subst hw)
          | (go_at_call 77; refine (rnothing_s _).mono ?_; rintro e w' ⟨rfl, hw⟩; subst hw)
          | (go_at_call 111; refine (rall _).mono ?_; rintro e w' ⟨rfl, hw⟩; subst hw))
        go_returns
        exact ⟨by first | (simp [eN]; done) | (simp [eN] <;> simp only [IntKind.wrap_u64] <;> omega), by go_grown, by go_grown⟩
      · have p2' := of_decide_eq_true p2
        have hk : decide (wrap64 ah < wrap64 al) = false := by rw [decide_eq_false]; simp only [wrap64]; omega
        rw [hk]
        clear hl p1' p2' b1 b2 hk
        go_enter Tryz.func102, Tryz.ntmps102
        go_wp2_with (first
          | (go_at_call 49; refine (rnone_u _ _ _).mono ?_; rintro e w' ⟨rfl, hw⟩; subst hw)
          | (go_at_call 77; refine (rnothing_s _).mono ?_; rintro e w' ⟨rfl, hw⟩; subst hw)
          | (go_at_call 111; refine (rall _).mono ?_; rintro e w' ⟨rfl, hw⟩; subst hw))
        go_returns
        exact ⟨by first | (simp [eN]; done) | (simp [eN] <;> simp only [IntKind.wrap_u64] <;> omega), by go_grown, by go_grown⟩
  ·
    go_enter Tryz.func102, Tryz.ntmps102
    go_wp2_with (first
      | (go_at_call 49; refine (rnone_u _ _ _).mono ?_; rintro e w' ⟨rfl, hw⟩; subst hw)
      | (go_at_call 77; refine (rnothing_s _).mono ?_; rintro e w' ⟨rfl, hw⟩; subst hw)
      | (go_at_call 111; refine (rall _).mono ?_; rintro e w' ⟨rfl, hw⟩; subst hw))
    go_returns
    exact ⟨by first | (simp [eN]; done) | (simp [eN] <;> simp only [IntKind.wrap_u64] <;> omega), by go_grown, by go_grown⟩
set_option maxHeartbeats 2000000 in
theorem bare_any (al ah : Int) (w : World) : Calls Tryz.prog 88 #[.agg #[.int .i64 al, .int .i64 ah]] w fun e w' => e = .returned (.agg #[.int .u64 (eN (decide (ah < al)) 1 (eN (decide (IntKind.u64.wrap ah < IntKind.u64.wrap al)) (0) (IntKind.u64.wrap al))), .int .u64 (eN (decide (ah < al)) 0 (eN (decide (IntKind.u64.wrap ah < IntKind.u64.wrap al)) (18446744073709551615) (IntKind.u64.wrap ah)))]) ∧ Gr w w' := by
  go_enter Tryz.func88, Tryz.ntmps88
  go_wp2_with fail
  have HA : Hid (At ((w.alloc (.cells #[.int .i64 al, .int .i64 ah] 28)).alloc (.cells #[.int .u64 0, .int .u64 0] 26)) w.heap.size (.int .i64 al) (.int .i64 ah) 28) := (At.newb _ rfl _ _ _).alloc _
  have HX : Hid (At ((w.alloc (.cells #[.int .i64 al, .int .i64 ah] 28)).alloc (.cells #[.int .u64 0, .int .u64 0] 26)) (w.heap.size + 1) (.int .u64 0) (.int .u64 0) 26) := At.newb _ (by simp) _ _ _
  have HF : Hid (Gr w ((w.alloc (.cells #[.int .i64 al, .int .i64 ah] 28)).alloc (.cells #[.int .u64 0, .int .u64 0] 26))) := (⟨by go_grown, by go_grown⟩ : Gr w _)
  revert HA HX HF
  generalize ((w.alloc (.cells #[.int .i64 al, .int .i64 ah] 28)).alloc (.cells #[.int .u64 0, .int .u64 0] 26)) = W
  intro HA HX HF
  have a0 := HA.out.c0
  have a1 := HA.out.c1
  go_region_held3 (fun w' => w'.cell? ⟨w.heap.size, 0, none⟩ = some (.int .i64 al) ∧ w'.cell? ⟨w.heap.size, 1, none⟩ = some (.int .i64 ah)) ((refine ⟨?_, ?_⟩ <;> repeat (with_reducible (first | assumption | apply cell_al | apply cell_dr | (refine cell_gr (by assumption) ?_) | (refine cell_st (by simp <;> omega) ?_)))))
    (first
    | (go_at_call 108; refine (whole_u _).mono ?_; rintro e w' ⟨rfl, hw⟩; subst hw)
    | (go_at_call 172; refine (taken_bare _ _ _ _ _).mono ?_; rintro e w1 ⟨rfl, hg⟩; have hx : At w1 (w.heap.size + 1) (.int .u64 0) (.int .u64 0) 26 := At.gr (by repeat (with_reducible (first | exact HX.out | apply At.drew | apply At.alloc))) hg; have hG : Hid (Gr w w1) := Gr.trans (by repeat (with_reducible (first | exact HF.out | apply Gr.drew | apply Gr.alloc))) hg; have f0 := hx.f0 0; have f1 := hx.f0 1; have c0 := hx.c0; have c1 := hx.c1; have e0 := (hx.set (.int .u64 (eN (decide (ah < al)) 1 (eN (decide (IntKind.u64.wrap ah < IntKind.u64.wrap al)) (0) (IntKind.u64.wrap al)))) (.int .u64 (eN (decide (ah < al)) 0 (eN (decide (IntKind.u64.wrap ah < IntKind.u64.wrap al)) (18446744073709551615) (IntKind.u64.wrap ah))))).c0; have e1 := (hx.set (.int .u64 (eN (decide (ah < al)) 1 (eN (decide (IntKind.u64.wrap ah < IntKind.u64.wrap al)) (0) (IntKind.u64.wrap al)))) (.int .u64 (eN (decide (ah < al)) 0 (eN (decide (IntKind.u64.wrap ah < IntKind.u64.wrap al)) (18446744073709551615) (IntKind.u64.wrap ah))))).c1; clear hx))
  all_goals go_wp2_with fail
  all_goals refine bodyPost_ret (by simp [results, Tryz.results88, go_sem, e0, e1]; try rfl) rfl ?_
  all_goals exact ⟨rfl, (hG.out.set (by omega) _).set (by omega) _⟩
set_option maxHeartbeats 4000000 in
theorem rbare (al ah : Int) (h1 : InS al) (h2 : InS ah) (w : World) : Calls Tryz.prog 103 #[.agg #[.int .i64 al, .int .i64 ah]] w fun e w' => e = .returned (.agg #[.int .u64 (eN (decide (ah < al)) 1 (eN (decide (IntKind.u64.wrap ah < IntKind.u64.wrap al)) (0) (IntKind.u64.wrap al))), .int .u64 (eN (decide (ah < al)) 0 (eN (decide (IntKind.u64.wrap ah < IntKind.u64.wrap al)) (18446744073709551615) (IntKind.u64.wrap ah)))]) ∧ Gr w w' := by
  cases e1 : decide (ah < al)
  · have hl := of_decide_eq_false e1
    have b1 := h1
    have b2 := h2
    unfold InS at b1 b2
    cases p1 : decide (al < 0)
    · have p1' := of_decide_eq_false p1
      have p2 : decide (ah < 0) = false := decide_eq_false (by omega)
      have hk : decide (IntKind.u64.wrap ah < IntKind.u64.wrap al) = false := by rw [decide_eq_false]; simp only [IntKind.wrap_u64]; omega
      rw [hk]
      clear hl p1' b1 b2 hk
      go_enter Tryz.func103, Tryz.ntmps103
      go_wp2_with (first
        | (go_at_call 50; refine (rnone_s _ _ _).mono ?_; rintro e w' ⟨rfl, hw⟩; subst hw)
        | (go_at_call 76; refine (rnothing_u _).mono ?_; rintro e w' ⟨rfl, hw⟩; subst hw)
        | (go_at_call 110; refine (rfull _).mono ?_; rintro e w' ⟨rfl, hw⟩; subst hw)
        | (go_at_call 120; refine (rspan _ _ _).mono ?_; rintro e w' ⟨rfl, hw⟩; subst hw))
      go_returns
      exact ⟨by first | (simp [eN]; done) | (simp [eN] <;> simp only [IntKind.wrap_u64] <;> omega), by go_grown, by go_grown⟩
    · have p1' := of_decide_eq_true p1
      cases p2 : decide (ah < 0)
      · have p2' := of_decide_eq_false p2
        have hk : decide (IntKind.u64.wrap ah < IntKind.u64.wrap al) = true := by rw [decide_eq_true]; simp only [IntKind.wrap_u64]; omega
        rw [hk]
        clear hl p1' p2' b1 b2 hk
        go_enter Tryz.func103, Tryz.ntmps103
        go_wp2_with (first
          | (go_at_call 50; refine (rnone_s _ _ _).mono ?_; rintro e w' ⟨rfl, hw⟩; subst hw)
          | (go_at_call 76; refine (rnothing_u _).mono ?_; rintro e w' ⟨rfl, hw⟩; subst hw)
          | (go_at_call 110; refine (rfull _).mono ?_; rintro e w' ⟨rfl, hw⟩; subst hw)
          | (go_at_call 120; refine (rspan _ _ _).mono ?_; rintro e w' ⟨rfl, hw⟩; subst hw))
        go_returns
        exact ⟨by first | (simp [eN]; done) | (simp [eN] <;> simp only [IntKind.wrap_u64] <;> omega), by go_grown, by go_grown⟩
      · have p2' := of_decide_eq_true p2
        have hk : decide (IntKind.u64.wrap ah < IntKind.u64.wrap al) = false := by rw [decide_eq_false]; simp only [IntKind.wrap_u64]; omega
        rw [hk]
        clear hl p1' p2' b1 b2 hk
        go_enter Tryz.func103, Tryz.ntmps103
        go_wp2_with (first
          | (go_at_call 50; refine (rnone_s _ _ _).mono ?_; rintro e w' ⟨rfl, hw⟩; subst hw)
          | (go_at_call 76; refine (rnothing_u _).mono ?_; rintro e w' ⟨rfl, hw⟩; subst hw)
          | (go_at_call 110; refine (rfull _).mono ?_; rintro e w' ⟨rfl, hw⟩; subst hw)
          | (go_at_call 120; refine (rspan _ _ _).mono ?_; rintro e w' ⟨rfl, hw⟩; subst hw))
        go_returns
        exact ⟨by first | (simp [eN]; done) | (simp [eN] <;> simp only [IntKind.wrap_u64] <;> omega), by go_grown, by go_grown⟩
  ·
    go_enter Tryz.func103, Tryz.ntmps103
    go_wp2_with (first
      | (go_at_call 50; refine (rnone_s _ _ _).mono ?_; rintro e w' ⟨rfl, hw⟩; subst hw)
      | (go_at_call 76; refine (rnothing_u _).mono ?_; rintro e w' ⟨rfl, hw⟩; subst hw)
      | (go_at_call 110; refine (rfull _).mono ?_; rintro e w' ⟨rfl, hw⟩; subst hw)
      | (go_at_call 120; refine (rspan _ _ _).mono ?_; rintro e w' ⟨rfl, hw⟩; subst hw))
    go_returns
    exact ⟨by first | (simp [eN]; done) | (simp [eN] <;> simp only [IntKind.wrap_u64] <;> omega), by go_grown, by go_grown⟩
set_option maxHeartbeats 4000000 in
theorem rplus (al ah bl bh : Int) (h1 : InS al) (h2 : InS ah) (h3 : InS bl) (h4 : InS bh) (w : World) : Calls Tryz.prog 142 #[.agg #[.int .i64 al, .int .i64 ah], .agg #[.int .i64 bl, .int .i64 bh]] w fun e w' => e = .returned (.agg #[.int .i64 (eN (decide (ah < al) || decide (bh < bl)) 1 (eE (decide (-9223372036854775808 ≤ al + bl) && decide (al + bl ≤ 9223372036854775807)) (decide (-9223372036854775808 ≤ ah + bh) && decide (ah + bh ≤ 9223372036854775807)) (wrap64 (al + bl)) (-9223372036854775808))), .int .i64 (eN (decide (ah < al) || decide (bh < bl)) 0 (eE (decide (-9223372036854775808 ≤ al + bl) && decide (al + bl ≤ 9223372036854775807)) (decide (-9223372036854775808 ≤ ah + bh) && decide (ah + bh ≤ 9223372036854775807)) (wrap64 (ah + bh)) (9223372036854775807)))]) ∧ Gr w w' := by
  cases e1 : decide (ah < al)
  · cases e2 : decide (bh < bl)
    · cases p1 : (decide (-9223372036854775808 ≤ al + bl) && decide (al + bl ≤ 9223372036854775807))
      · cases p2 : (decide (-9223372036854775808 ≤ ah + bh) && decide (ah + bh ≤ 9223372036854775807))
        ·
          have HP : Hid _ := p1
          have HQ : Hid _ := p2
          clear p1 p2
          go_enter Tryz.func142, Tryz.ntmps142
          go_wp2_with (first
            | (go_at_call 50; refine (rnone_s _ _ _).mono ?_; rintro e w' ⟨rfl, hw⟩; subst hw)
            | (go_at_call 77; refine (rnothing_s _).mono ?_; rintro e w' ⟨rfl, hw⟩; subst hw)
            | (go_at_call 111; refine (rall _).mono ?_; rintro e w' ⟨rfl, hw⟩; subst hw)
            | (go_at_call_of 203 (Value.int IntKind.i64 al); refine (sum_n _ _ h1 h3 HP.out _).mono ?_; rintro e w' ⟨rfl, hw⟩; subst hw)
            | (go_at_call_of 203 (Value.int IntKind.i64 ah); refine (sum_n _ _ h2 h4 HQ.out _).mono ?_; rintro e w' ⟨rfl, hw⟩; subst hw))
          go_returns
          exact ⟨by simp [eN, eE], by go_grown, by go_grown⟩
        ·
          have HP : Hid _ := p1
          have HQ : Hid _ := p2
          clear p1 p2
          go_enter Tryz.func142, Tryz.ntmps142
          go_wp2_with (first
            | (go_at_call 50; refine (rnone_s _ _ _).mono ?_; rintro e w' ⟨rfl, hw⟩; subst hw)
            | (go_at_call 77; refine (rnothing_s _).mono ?_; rintro e w' ⟨rfl, hw⟩; subst hw)
            | (go_at_call 111; refine (rall _).mono ?_; rintro e w' ⟨rfl, hw⟩; subst hw)
            | (go_at_call_of 203 (Value.int IntKind.i64 al); refine (sum_n _ _ h1 h3 HP.out _).mono ?_; rintro e w' ⟨rfl, hw⟩; subst hw)
            | (go_at_call_of 203 (Value.int IntKind.i64 ah); refine (sum_y _ _ h2 h4 HQ.out _).mono ?_; rintro e w' ⟨rfl, hw⟩; subst hw))
          go_returns
          exact ⟨by simp [eN, eE], by go_grown, by go_grown⟩
      · cases p2 : (decide (-9223372036854775808 ≤ ah + bh) && decide (ah + bh ≤ 9223372036854775807))
        ·
          have HP : Hid _ := p1
          have HQ : Hid _ := p2
          clear p1 p2
          go_enter Tryz.func142, Tryz.ntmps142
          go_wp2_with (first
            | (go_at_call 50; refine (rnone_s _ _ _).mono ?_; rintro e w' ⟨rfl, hw⟩; subst hw)
            | (go_at_call 77; refine (rnothing_s _).mono ?_; rintro e w' ⟨rfl, hw⟩; subst hw)
            | (go_at_call 111; refine (rall _).mono ?_; rintro e w' ⟨rfl, hw⟩; subst hw)
            | (go_at_call_of 203 (Value.int IntKind.i64 al); refine (sum_y _ _ h1 h3 HP.out _).mono ?_; rintro e w' ⟨rfl, hw⟩; subst hw)
            | (go_at_call_of 203 (Value.int IntKind.i64 ah); refine (sum_n _ _ h2 h4 HQ.out _).mono ?_; rintro e w' ⟨rfl, hw⟩; subst hw))
          go_returns
          exact ⟨by simp [eN, eE], by go_grown, by go_grown⟩
        ·
          have HP : Hid _ := p1
          have HQ : Hid _ := p2
          clear p1 p2
          go_enter Tryz.func142, Tryz.ntmps142
          go_wp2_with (first
            | (go_at_call 50; refine (rnone_s _ _ _).mono ?_; rintro e w' ⟨rfl, hw⟩; subst hw)
            | (go_at_call 77; refine (rnothing_s _).mono ?_; rintro e w' ⟨rfl, hw⟩; subst hw)
            | (go_at_call 111; refine (rall _).mono ?_; rintro e w' ⟨rfl, hw⟩; subst hw)
            | (go_at_call_of 203 (Value.int IntKind.i64 al); refine (sum_y _ _ h1 h3 HP.out _).mono ?_; rintro e w' ⟨rfl, hw⟩; subst hw)
            | (go_at_call_of 203 (Value.int IntKind.i64 ah); refine (sum_y _ _ h2 h4 HQ.out _).mono ?_; rintro e w' ⟨rfl, hw⟩; subst hw))
          go_returns
          exact ⟨by simp [eN, eE], by go_grown, by go_grown⟩
    ·
      go_enter Tryz.func142, Tryz.ntmps142
      go_wp2_with (first
        | (go_at_call 50; refine (rnone_s _ _ _).mono ?_; rintro e w' ⟨rfl, hw⟩; subst hw)
        | (go_at_call 77; refine (rnothing_s _).mono ?_; rintro e w' ⟨rfl, hw⟩; subst hw)
        | (go_at_call 111; refine (rall _).mono ?_; rintro e w' ⟨rfl, hw⟩; subst hw))
      go_returns
      exact ⟨by first | (simp [eN]; done) | (simp [eN] <;> simp only [IntKind.wrap_u64] <;> omega), by go_grown, by go_grown⟩
  ·
    go_enter Tryz.func142, Tryz.ntmps142
    go_wp2_with (first
      | (go_at_call 50; refine (rnone_s _ _ _).mono ?_; rintro e w' ⟨rfl, hw⟩; subst hw)
      | (go_at_call 77; refine (rnothing_s _).mono ?_; rintro e w' ⟨rfl, hw⟩; subst hw)
      | (go_at_call 111; refine (rall _).mono ?_; rintro e w' ⟨rfl, hw⟩; subst hw))
    go_returns
    exact ⟨by first | (simp [eN]; done) | (simp [eN] <;> simp only [IntKind.wrap_u64] <;> omega), by go_grown, by go_grown⟩
set_option maxHeartbeats 4000000 in
theorem rminus (al ah bl bh : Int) (h1 : InS al) (h2 : InS ah) (h3 : InS bl) (h4 : InS bh) (w : World) : Calls Tryz.prog 146 #[.agg #[.int .i64 al, .int .i64 ah], .agg #[.int .i64 bl, .int .i64 bh]] w fun e w' => e = .returned (.agg #[.int .i64 (eN (decide (ah < al) || decide (bh < bl)) 1 (eE (decide (-9223372036854775808 ≤ al - bh) && decide (al - bh ≤ 9223372036854775807)) (decide (-9223372036854775808 ≤ ah - bl) && decide (ah - bl ≤ 9223372036854775807)) (wrap64 (al - bh)) (-9223372036854775808))), .int .i64 (eN (decide (ah < al) || decide (bh < bl)) 0 (eE (decide (-9223372036854775808 ≤ al - bh) && decide (al - bh ≤ 9223372036854775807)) (decide (-9223372036854775808 ≤ ah - bl) && decide (ah - bl ≤ 9223372036854775807)) (wrap64 (ah - bl)) (9223372036854775807)))]) ∧ Gr w w' := by
  cases e1 : decide (ah < al)
  · cases e2 : decide (bh < bl)
    · cases p1 : (decide (-9223372036854775808 ≤ al - bh) && decide (al - bh ≤ 9223372036854775807))
      · cases p2 : (decide (-9223372036854775808 ≤ ah - bl) && decide (ah - bl ≤ 9223372036854775807))
        ·
          have HP : Hid _ := p1
          have HQ : Hid _ := p2
          clear p1 p2
          go_enter Tryz.func146, Tryz.ntmps146
          go_wp2_with (first
            | (go_at_call 50; refine (rnone_s _ _ _).mono ?_; rintro e w' ⟨rfl, hw⟩; subst hw)
            | (go_at_call 77; refine (rnothing_s _).mono ?_; rintro e w' ⟨rfl, hw⟩; subst hw)
            | (go_at_call 111; refine (rall _).mono ?_; rintro e w' ⟨rfl, hw⟩; subst hw)
            | (go_at_call_of 204 (Value.int IntKind.i64 al); refine (dif_n _ _ h1 h4 HP.out _).mono ?_; rintro e w' ⟨rfl, hw⟩; subst hw)
            | (go_at_call_of 204 (Value.int IntKind.i64 ah); refine (dif_n _ _ h2 h3 HQ.out _).mono ?_; rintro e w' ⟨rfl, hw⟩; subst hw))
          go_returns
          exact ⟨by simp [eN, eE], by go_grown, by go_grown⟩
        ·
          have HP : Hid _ := p1
          have HQ : Hid _ := p2
          clear p1 p2
          go_enter Tryz.func146, Tryz.ntmps146
          go_wp2_with (first
            | (go_at_call 50; refine (rnone_s _ _ _).mono ?_; rintro e w' ⟨rfl, hw⟩; subst hw)
            | (go_at_call 77; refine (rnothing_s _).mono ?_; rintro e w' ⟨rfl, hw⟩; subst hw)
            | (go_at_call 111; refine (rall _).mono ?_; rintro e w' ⟨rfl, hw⟩; subst hw)
            | (go_at_call_of 204 (Value.int IntKind.i64 al); refine (dif_n _ _ h1 h4 HP.out _).mono ?_; rintro e w' ⟨rfl, hw⟩; subst hw)
            | (go_at_call_of 204 (Value.int IntKind.i64 ah); refine (dif_y _ _ h2 h3 HQ.out _).mono ?_; rintro e w' ⟨rfl, hw⟩; subst hw))
          go_returns
          exact ⟨by simp [eN, eE], by go_grown, by go_grown⟩
      · cases p2 : (decide (-9223372036854775808 ≤ ah - bl) && decide (ah - bl ≤ 9223372036854775807))
        ·
          have HP : Hid _ := p1
          have HQ : Hid _ := p2
          clear p1 p2
          go_enter Tryz.func146, Tryz.ntmps146
          go_wp2_with (first
            | (go_at_call 50; refine (rnone_s _ _ _).mono ?_; rintro e w' ⟨rfl, hw⟩; subst hw)
            | (go_at_call 77; refine (rnothing_s _).mono ?_; rintro e w' ⟨rfl, hw⟩; subst hw)
            | (go_at_call 111; refine (rall _).mono ?_; rintro e w' ⟨rfl, hw⟩; subst hw)
            | (go_at_call_of 204 (Value.int IntKind.i64 al); refine (dif_y _ _ h1 h4 HP.out _).mono ?_; rintro e w' ⟨rfl, hw⟩; subst hw)
            | (go_at_call_of 204 (Value.int IntKind.i64 ah); refine (dif_n _ _ h2 h3 HQ.out _).mono ?_; rintro e w' ⟨rfl, hw⟩; subst hw))
          go_returns
          exact ⟨by simp [eN, eE], by go_grown, by go_grown⟩
        ·
          have HP : Hid _ := p1
          have HQ : Hid _ := p2
          clear p1 p2
          go_enter Tryz.func146, Tryz.ntmps146
          go_wp2_with (first
            | (go_at_call 50; refine (rnone_s _ _ _).mono ?_; rintro e w' ⟨rfl, hw⟩; subst hw)
            | (go_at_call 77; refine (rnothing_s _).mono ?_; rintro e w' ⟨rfl, hw⟩; subst hw)
            | (go_at_call 111; refine (rall _).mono ?_; rintro e w' ⟨rfl, hw⟩; subst hw)
            | (go_at_call_of 204 (Value.int IntKind.i64 al); refine (dif_y _ _ h1 h4 HP.out _).mono ?_; rintro e w' ⟨rfl, hw⟩; subst hw)
            | (go_at_call_of 204 (Value.int IntKind.i64 ah); refine (dif_y _ _ h2 h3 HQ.out _).mono ?_; rintro e w' ⟨rfl, hw⟩; subst hw))
          go_returns
          exact ⟨by simp [eN, eE], by go_grown, by go_grown⟩
    ·
      go_enter Tryz.func146, Tryz.ntmps146
      go_wp2_with (first
        | (go_at_call 50; refine (rnone_s _ _ _).mono ?_; rintro e w' ⟨rfl, hw⟩; subst hw)
        | (go_at_call 77; refine (rnothing_s _).mono ?_; rintro e w' ⟨rfl, hw⟩; subst hw)
        | (go_at_call 111; refine (rall _).mono ?_; rintro e w' ⟨rfl, hw⟩; subst hw))
      go_returns
      exact ⟨by first | (simp [eN]; done) | (simp [eN] <;> simp only [IntKind.wrap_u64] <;> omega), by go_grown, by go_grown⟩
  ·
    go_enter Tryz.func146, Tryz.ntmps146
    go_wp2_with (first
      | (go_at_call 50; refine (rnone_s _ _ _).mono ?_; rintro e w' ⟨rfl, hw⟩; subst hw)
      | (go_at_call 77; refine (rnothing_s _).mono ?_; rintro e w' ⟨rfl, hw⟩; subst hw)
      | (go_at_call 111; refine (rall _).mono ?_; rintro e w' ⟨rfl, hw⟩; subst hw))
    go_returns
    exact ⟨by first | (simp [eN]; done) | (simp [eN] <;> simp only [IntKind.wrap_u64] <;> omega), by go_grown, by go_grown⟩
end Go.Proofs.YtekenpgagfmgkaaGreat
