/- Towards the statements of package span (layer 4): the quotients and rests of the document. -/
import Derived.Test.YtkfjjpdcbdbdiaaDiv
namespace Go.Proofs.Ytkfjjpdcbdbdiaa
open Go.ChangeShapes Go.WideShapes Go.ChangeAt Go.RowKit
set_option linter.unusedVariables false
set_option maxRecDepth 20000

set_option maxHeartbeats 4000000 in
theorem do_div (al ah bl bh : Int) (h1 : InU al) (h2 : InU ah) (h3 : InU bl) (h4 : InU bh) (w : World) : Calls Try.prog 37 #[.agg #[.int .u64 al, .int .u64 ah], .agg #[.int .u64 bl, .int .u64 bh], .int .i64 3] w fun e w' => e = .returned (.agg #[.int .u64 (eN (decide (ah < al) || decide (bh < bl)) 1 (eN (decide (bl ≤ 0) && decide (0 ≤ bh)) 0 (al / bh))), .int .u64 (eN (decide (ah < al) || decide (bh < bl)) 0 (eN (decide (bl ≤ 0) && decide (0 ≤ bh)) ah (ah / bl)))]) ∧ Gr w w' := by
  have zz : (decide (bl ≤ 0) && decide (0 ≤ bh)) = (bl == 0) := by
    have b3 := h3
    have b4 := h4
    unfold InU at b3 b4
    rw [decide_eq_true b4.1, Bool.and_true]
    rcases Int.lt_or_le 0 bl with h | h
    · rw [decide_eq_false (by omega), eq_comm, beq_eq_false_iff_ne]; omega
    · rw [decide_eq_true h, eq_comm, beq_iff_eq]; omega
  rw [zz]
  clear zz
  cases n1 : decide (ah < al)
  · cases n2 : decide (bh < bl)
    · cases z : (bl == 0)
      · have hn2 := of_decide_eq_false n2
        have hz0 : bl ≠ 0 := by simpa using z
        have b3 := h3
        unfold InU at b3
        have k1 : 0 < bl := by omega
        have k2 : 0 < bh := by omega
        have q1 := quo_u al bh h1 k2
        have q2 := quo_u ah bl h2 k1
        have y1 : bh ≠ 0 := by omega
        have r1 : al.tdiv bh = al / bh := Int.tdiv_eq_ediv_of_nonneg h1.1
        have r2 : ah.tdiv bl = ah / bl := Int.tdiv_eq_ediv_of_nonneg h2.1
        rw [r1] at q1
        rw [r2] at q2
        have a0 := (At.newb w rfl (.int .u64 al) (.int .u64 ah) 35).c0
        have a1 := (At.newb w rfl (.int .u64 al) (.int .u64 ah) 35).c1
        have b0 := (At.newb (w.alloc (.cells #[.int .u64 al, .int .u64 ah] 35)) (show w.heap.size + 1 = _ by simp) (.int .u64 bl) (.int .u64 bh) 35).c0
        have b1 := (At.newb (w.alloc (.cells #[.int .u64 al, .int .u64 ah] 35)) (show w.heap.size + 1 = _ by simp) (.int .u64 bl) (.int .u64 bh) 35).c1
        go_enter Try.func37, Try.ntmps37
        go_wp2_with (first
          | (go_at_call 20; refine (rnone_u _ _ _).mono ?_; rintro e w' ⟨rfl, hw⟩; subst hw)
          | (go_at_call 68; refine (rnothing_u _).mono ?_; rintro e w' ⟨rfl, hw⟩; subst hw)
          | (go_at_call 77; refine (rfull _).mono ?_; rintro e w' ⟨rfl, hw⟩; subst hw)
          | (go_at_call 67; refine (rspan _ _ _).mono ?_; rintro e w' ⟨rfl, hw⟩; subst hw))
        go_region_held3 (fun w' => w'.cell? ⟨w.heap.size, 0, none⟩ = some (.int .u64 al) ∧ w'.cell? ⟨w.heap.size, 1, none⟩ = some (.int .u64 ah) ∧ w'.cell? ⟨w.heap.size + 1, 0, none⟩ = some (.int .u64 bl) ∧ w'.cell? ⟨w.heap.size + 1, 1, none⟩ = some (.int .u64 bh)) ((refine ⟨?_, ?_, ?_, ?_⟩ <;> repeat (with_reducible (first | assumption | apply cell_al | apply cell_dr | (refine cell_st (by simp <;> omega) ?_)))))
          (first
          | (go_at_call 67; refine (rspan _ _ _).mono ?_; rintro e w' ⟨rfl, hw⟩; subst hw))
        all_goals go_wp2_with fail
        all_goals go_returns
        all_goals exact ⟨by simp [eN], by go_grown, by go_grown⟩
      ·
        go_enter Try.func37, Try.ntmps37
        go_wp2_with (first
          | (go_at_call 20; refine (rnone_u _ _ _).mono ?_; rintro e w' ⟨rfl, hw⟩; subst hw)
          | (go_at_call 68; refine (rnothing_u _).mono ?_; rintro e w' ⟨rfl, hw⟩; subst hw)
          | (go_at_call 77; refine (rfull _).mono ?_; rintro e w' ⟨rfl, hw⟩; subst hw)
          | (go_at_call 67; refine (rspan _ _ _).mono ?_; rintro e w' ⟨rfl, hw⟩; subst hw))
        go_returns
        exact ⟨by first | (simp [eN]; done) | (simp [eN] <;> simp only [IntKind.wrap_u64] <;> omega), by go_grown, by go_grown⟩
    ·
      go_enter Try.func37, Try.ntmps37
      go_wp2_with (first
        | (go_at_call 20; refine (rnone_u _ _ _).mono ?_; rintro e w' ⟨rfl, hw⟩; subst hw)
        | (go_at_call 68; refine (rnothing_u _).mono ?_; rintro e w' ⟨rfl, hw⟩; subst hw)
        | (go_at_call 77; refine (rfull _).mono ?_; rintro e w' ⟨rfl, hw⟩; subst hw)
        | (go_at_call 67; refine (rspan _ _ _).mono ?_; rintro e w' ⟨rfl, hw⟩; subst hw))
      go_returns
      exact ⟨by first | (simp [eN]; done) | (simp [eN] <;> simp only [IntKind.wrap_u64] <;> omega), by go_grown, by go_grown⟩
  ·
    go_enter Try.func37, Try.ntmps37
    go_wp2_with (first
      | (go_at_call 20; refine (rnone_u _ _ _).mono ?_; rintro e w' ⟨rfl, hw⟩; subst hw)
      | (go_at_call 68; refine (rnothing_u _).mono ?_; rintro e w' ⟨rfl, hw⟩; subst hw)
      | (go_at_call 77; refine (rfull _).mono ?_; rintro e w' ⟨rfl, hw⟩; subst hw)
      | (go_at_call 67; refine (rspan _ _ _).mono ?_; rintro e w' ⟨rfl, hw⟩; subst hw))
    go_returns
    exact ⟨by first | (simp [eN]; done) | (simp [eN] <;> simp only [IntKind.wrap_u64] <;> omega), by go_grown, by go_grown⟩
set_option maxHeartbeats 4000000 in
theorem do_mod (al ah bl bh : Int) (h1 : InU al) (h2 : InU ah) (h3 : InU bl) (h4 : InU bh) (w : World) : Calls Try.prog 37 #[.agg #[.int .u64 al, .int .u64 ah], .agg #[.int .u64 bl, .int .u64 bh], .int .i64 4] w fun e w' => e = .returned (.agg #[.int .u64 (eN (decide (ah < al) || decide (bh < bl)) 1 (eN (decide (bl ≤ 0) && decide (0 ≤ bh)) 0 (0))), .int .u64 (eN (decide (ah < al) || decide (bh < bl)) 0 (eN (decide (bl ≤ 0) && decide (0 ≤ bh)) ah (eN (decide (bh - 1 < ah)) (bh - 1) ah)))]) ∧ Gr w w' := by
  have zz : (decide (bl ≤ 0) && decide (0 ≤ bh)) = (bl == 0) := by
    have b3 := h3
    have b4 := h4
    unfold InU at b3 b4
    rw [decide_eq_true b4.1, Bool.and_true]
    rcases Int.lt_or_le 0 bl with h | h
    · rw [decide_eq_false (by omega), eq_comm, beq_eq_false_iff_ne]; omega
    · rw [decide_eq_true h, eq_comm, beq_iff_eq]; omega
  rw [zz]
  clear zz
  cases n1 : decide (ah < al)
  · cases n2 : decide (bh < bl)
    · cases z : (bl == 0)
      · have hn2 := of_decide_eq_false n2
        have hz0 : bl ≠ 0 := by simpa using z
        unfold InU at h1 h2 h3 h4
        have s1 : IntKind.u64.wrap (bh - 1) = bh - 1 := wrap_inU (by unfold InU; omega)
        rcases Int.lt_or_le (bh - 1) ah with h | h
        · rw [decide_eq_true h]
          go_enter Try.func37, Try.ntmps37
          go_wp2_with (first
            | (go_at_call 20; refine (rnone_u _ _ _).mono ?_; rintro e w' ⟨rfl, hw⟩; subst hw)
            | (go_at_call 68; refine (rnothing_u _).mono ?_; rintro e w' ⟨rfl, hw⟩; subst hw)
            | (go_at_call 77; refine (rfull _).mono ?_; rintro e w' ⟨rfl, hw⟩; subst hw)
            | (go_at_call 67; refine (rspan _ _ _).mono ?_; rintro e w' ⟨rfl, hw⟩; subst hw))
          all_goals first | omega | skip
          all_goals go_returns
          all_goals exact ⟨by simp [eN], by go_grown, by go_grown⟩
        · rw [decide_eq_false (by omega)]
          go_enter Try.func37, Try.ntmps37
          go_wp2_with (first
            | (go_at_call 20; refine (rnone_u _ _ _).mono ?_; rintro e w' ⟨rfl, hw⟩; subst hw)
            | (go_at_call 68; refine (rnothing_u _).mono ?_; rintro e w' ⟨rfl, hw⟩; subst hw)
            | (go_at_call 77; refine (rfull _).mono ?_; rintro e w' ⟨rfl, hw⟩; subst hw)
            | (go_at_call 67; refine (rspan _ _ _).mono ?_; rintro e w' ⟨rfl, hw⟩; subst hw))
          all_goals first | omega | skip
          all_goals go_returns
          all_goals exact ⟨by simp [eN], by go_grown, by go_grown⟩
      ·
        go_enter Try.func37, Try.ntmps37
        go_wp2_with (first
          | (go_at_call 20; refine (rnone_u _ _ _).mono ?_; rintro e w' ⟨rfl, hw⟩; subst hw)
          | (go_at_call 68; refine (rnothing_u _).mono ?_; rintro e w' ⟨rfl, hw⟩; subst hw)
          | (go_at_call 77; refine (rfull _).mono ?_; rintro e w' ⟨rfl, hw⟩; subst hw)
          | (go_at_call 67; refine (rspan _ _ _).mono ?_; rintro e w' ⟨rfl, hw⟩; subst hw))
        go_returns
        exact ⟨by first | (simp [eN]; done) | (simp [eN] <;> simp only [IntKind.wrap_u64] <;> omega), by go_grown, by go_grown⟩
    ·
      go_enter Try.func37, Try.ntmps37
      go_wp2_with (first
        | (go_at_call 20; refine (rnone_u _ _ _).mono ?_; rintro e w' ⟨rfl, hw⟩; subst hw)
        | (go_at_call 68; refine (rnothing_u _).mono ?_; rintro e w' ⟨rfl, hw⟩; subst hw)
        | (go_at_call 77; refine (rfull _).mono ?_; rintro e w' ⟨rfl, hw⟩; subst hw)
        | (go_at_call 67; refine (rspan _ _ _).mono ?_; rintro e w' ⟨rfl, hw⟩; subst hw))
      go_returns
      exact ⟨by first | (simp [eN]; done) | (simp [eN] <;> simp only [IntKind.wrap_u64] <;> omega), by go_grown, by go_grown⟩
  ·
    go_enter Try.func37, Try.ntmps37
    go_wp2_with (first
      | (go_at_call 20; refine (rnone_u _ _ _).mono ?_; rintro e w' ⟨rfl, hw⟩; subst hw)
      | (go_at_call 68; refine (rnothing_u _).mono ?_; rintro e w' ⟨rfl, hw⟩; subst hw)
      | (go_at_call 77; refine (rfull _).mono ?_; rintro e w' ⟨rfl, hw⟩; subst hw)
      | (go_at_call 67; refine (rspan _ _ _).mono ?_; rintro e w' ⟨rfl, hw⟩; subst hw))
    go_returns
    exact ⟨by first | (simp [eN]; done) | (simp [eN] <;> simp only [IntKind.wrap_u64] <;> omega), by go_grown, by go_grown⟩
end Go.Proofs.Ytkfjjpdcbdbdiaa
