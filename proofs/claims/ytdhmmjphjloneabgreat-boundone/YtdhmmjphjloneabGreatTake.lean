/- Towards the statements of package span (layer 4): spans as reaches, and the other way. -/
import Derived.Test.YtdhmmjphjloneabGreatSmall
namespace Go.Proofs.YtdhmmjphjloneabGreat
open Go.ChangeShapes Go.WideShapes Go.ChangeAt Go.RowKit
set_option linter.unusedVariables false
set_option maxRecDepth 20000

/-- What becomes of both ends, taken as numbers of the other kind: turned ends lay on both sides. -/
def tkE (n : Bool) (l h r d : Int) : Int := if n then d else r
theorem sign_c (x : Int) (w : World) : Calls Tryz.prog 76 #[.int .u64 x] w fun e w' => e = .returned (.int .i64 (wrap64 x)) ∧ w' = w := by
  go_enter Tryz.func76, Tryz.ntmps76
  go_wp2
  go_ret
  exact ⟨rfl, rfl⟩
theorem bare_c (x : Int) (w : World) : Calls Tryz.prog 78 #[.int .i64 x] w fun e w' => e = .returned (.int .u64 (IntKind.u64.wrap x)) ∧ w' = w := by
  go_enter Tryz.func78, Tryz.ntmps78
  go_wp2
  go_ret
  exact ⟨rfl, rfl⟩
set_option maxHeartbeats 4000000 in
theorem taken_sign (al ah wl wh : Int) (w : World) : Calls Tryz.prog 75 #[.agg #[.int .u64 al, .int .u64 ah], .agg #[.int .i64 wl, .int .i64 wh], .func (.func 76) #[] #[]] w fun e w' => e = .returned (.agg #[.int .i64 (eN (decide (ah < al)) 1 (eN (decide (wrap64 ah < wrap64 al)) (wl) (wrap64 al))), .int .i64 (eN (decide (ah < al)) 0 (eN (decide (wrap64 ah < wrap64 al)) (wh) (wrap64 ah)))]) ∧ Gr w w' := by
  cases e1 : decide (ah < al)
  · cases e2 : decide (wrap64 ah < wrap64 al)
    ·
      have b0 := (At.newb w rfl (.int .u64 al) (.int .u64 ah) 85).c0
      have b1 := (At.newb w rfl (.int .u64 al) (.int .u64 ah) 85).c1
      go_enter Tryz.func75, Tryz.ntmps75
      go_wp2_with (first
        | (go_at_call 72; refine (empty_u _ _ _).mono ?_; rintro e w' ⟨rfl, hw⟩; subst hw))
      go_region_held3 (fun w' => w'.cell? ⟨w.heap.size, 0, none⟩ = some (.int .u64 al) ∧ w'.cell? ⟨w.heap.size, 1, none⟩ = some (.int .u64 ah)) ((refine ⟨?_, ?_⟩ <;> repeat (with_reducible (first | assumption | apply cell_al | apply cell_dr | (refine cell_st (by simp <;> omega) ?_)))))
        (first
        | (go_at_call 76; refine (sign_c _ _).mono ?_; rintro e w' ⟨rfl, hw⟩; subst hw))
      all_goals go_wp2_with (first
        | (go_at_call 73; refine (empty_s _ _ _).mono ?_; rintro e w' ⟨rfl, hw⟩; subst hw))
      all_goals go_returns
      all_goals exact ⟨by simp [eN], by go_grown, by go_grown⟩
    ·
      have b0 := (At.newb w rfl (.int .u64 al) (.int .u64 ah) 85).c0
      have b1 := (At.newb w rfl (.int .u64 al) (.int .u64 ah) 85).c1
      go_enter Tryz.func75, Tryz.ntmps75
      go_wp2_with (first
        | (go_at_call 72; refine (empty_u _ _ _).mono ?_; rintro e w' ⟨rfl, hw⟩; subst hw))
      go_region_held3 (fun w' => w'.cell? ⟨w.heap.size, 0, none⟩ = some (.int .u64 al) ∧ w'.cell? ⟨w.heap.size, 1, none⟩ = some (.int .u64 ah)) ((refine ⟨?_, ?_⟩ <;> repeat (with_reducible (first | assumption | apply cell_al | apply cell_dr | (refine cell_st (by simp <;> omega) ?_)))))
        (first
        | (go_at_call 76; refine (sign_c _ _).mono ?_; rintro e w' ⟨rfl, hw⟩; subst hw))
      all_goals go_wp2_with (first
        | (go_at_call 73; refine (empty_s _ _ _).mono ?_; rintro e w' ⟨rfl, hw⟩; subst hw))
      all_goals go_returns
      all_goals exact ⟨by simp [eN], by go_grown, by go_grown⟩
  · go_enter Tryz.func75, Tryz.ntmps75
    go_wp2_with (first
      | (go_at_call 72; refine (empty_u _ _ _).mono ?_; rintro e w' ⟨rfl, hw⟩; subst hw)
      | (go_at_call 83; refine (nothing_s _).mono ?_; rintro e w' ⟨rfl, hw⟩; subst hw))
    go_returns
    exact ⟨by simp [eN], by go_grown, by go_grown⟩
set_option maxHeartbeats 4000000 in
theorem taken_bare (al ah wl wh : Int) (w : World) : Calls Tryz.prog 77 #[.agg #[.int .i64 al, .int .i64 ah], .agg #[.int .u64 wl, .int .u64 wh], .func (.func 78) #[] #[]] w fun e w' => e = .returned (.agg #[.int .u64 (eN (decide (ah < al)) 1 (eN (decide (IntKind.u64.wrap ah < IntKind.u64.wrap al)) (wl) (IntKind.u64.wrap al))), .int .u64 (eN (decide (ah < al)) 0 (eN (decide (IntKind.u64.wrap ah < IntKind.u64.wrap al)) (wh) (IntKind.u64.wrap ah)))]) ∧ Gr w w' := by
  cases e1 : decide (ah < al)
  · cases e2 : decide (IntKind.u64.wrap ah < IntKind.u64.wrap al)
    ·
      have b0 := (At.newb w rfl (.int .i64 al) (.int .i64 ah) 87).c0
      have b1 := (At.newb w rfl (.int .i64 al) (.int .i64 ah) 87).c1
      go_enter Tryz.func77, Tryz.ntmps77
      go_wp2_with (first
        | (go_at_call 73; refine (empty_s _ _ _).mono ?_; rintro e w' ⟨rfl, hw⟩; subst hw))
      go_region_held3 (fun w' => w'.cell? ⟨w.heap.size, 0, none⟩ = some (.int .i64 al) ∧ w'.cell? ⟨w.heap.size, 1, none⟩ = some (.int .i64 ah)) ((refine ⟨?_, ?_⟩ <;> repeat (with_reducible (first | assumption | apply cell_al | apply cell_dr | (refine cell_st (by simp <;> omega) ?_)))))
        (first
        | (go_at_call 78; refine (bare_c _ _).mono ?_; rintro e w' ⟨rfl, hw⟩; subst hw))
      all_goals go_wp2_with (first
        | (go_at_call 72; refine (empty_u _ _ _).mono ?_; rintro e w' ⟨rfl, hw⟩; subst hw))
      all_goals go_returns
      all_goals exact ⟨by simp [eN], by go_grown, by go_grown⟩
    ·
      have b0 := (At.newb w rfl (.int .i64 al) (.int .i64 ah) 87).c0
      have b1 := (At.newb w rfl (.int .i64 al) (.int .i64 ah) 87).c1
      go_enter Tryz.func77, Tryz.ntmps77
      go_wp2_with (first
        | (go_at_call 73; refine (empty_s _ _ _).mono ?_; rintro e w' ⟨rfl, hw⟩; subst hw))
      go_region_held3 (fun w' => w'.cell? ⟨w.heap.size, 0, none⟩ = some (.int .i64 al) ∧ w'.cell? ⟨w.heap.size, 1, none⟩ = some (.int .i64 ah)) ((refine ⟨?_, ?_⟩ <;> repeat (with_reducible (first | assumption | apply cell_al | apply cell_dr | (refine cell_st (by simp <;> omega) ?_)))))
        (first
        | (go_at_call 78; refine (bare_c _ _).mono ?_; rintro e w' ⟨rfl, hw⟩; subst hw))
      all_goals go_wp2_with (first
        | (go_at_call 72; refine (empty_u _ _ _).mono ?_; rintro e w' ⟨rfl, hw⟩; subst hw))
      all_goals go_returns
      all_goals exact ⟨by simp [eN], by go_grown, by go_grown⟩
  · go_enter Tryz.func77, Tryz.ntmps77
    go_wp2_with (first
      | (go_at_call 73; refine (empty_s _ _ _).mono ?_; rintro e w' ⟨rfl, hw⟩; subst hw)
      | (go_at_call 82; refine (nothing_u _).mono ?_; rintro e w' ⟨rfl, hw⟩; subst hw))
    go_returns
    exact ⟨by simp [eN], by go_grown, by go_grown⟩
end Go.Proofs.YtdhmmjphjloneabGreat
