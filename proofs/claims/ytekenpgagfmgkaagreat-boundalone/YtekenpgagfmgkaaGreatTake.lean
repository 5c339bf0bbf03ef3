/- Towards the statements of package span (layer 4): spans as reaches, and the other way. -/
import Derived.Test.YtekenpgagfmgkaaGreatSmall
namespace Go.Proofs.YtekenpgagfmgkaaGreat
open Go.ChangeShapes Go.WideShapes Go.ChangeAt Go.RowKit
set_option linter.unusedVariables false
set_option maxRecDepth 20000

/-- What becomes of both ends, taken as numbers of the other kind: turned ends lay on both sides. -/
def tkE (n : Bool) (l h r d : Int) : Int := if n then d else r
theorem sign_c (x : Int) (w : World) : Calls Tryz.prog 171 #[.int .u64 x] w fun e w' => e = .returned (.int .i64 (wrap64 x)) ∧ w' = w := by
  go_enter Tryz.func171, Tryz.ntmps171
  go_wp2
  go_ret
  exact ⟨rfl, rfl⟩
theorem bare_c (x : Int) (w : World) : Calls Tryz.prog 173 #[.int .i64 x] w fun e w' => e = .returned (.int .u64 (IntKind.u64.wrap x)) ∧ w' = w := by
  go_enter Tryz.func173, Tryz.ntmps173
  go_wp2
  go_ret
  exact ⟨rfl, rfl⟩
set_option maxHeartbeats 4000000 in
theorem taken_sign (al ah wl wh : Int) (w : World) : Calls Tryz.prog 170 #[.agg #[.int .u64 al, .int .u64 ah], .agg #[.int .i64 wl, .int .i64 wh], .func (.func 171) #[] #[]] w fun e w' => e = .returned (.agg #[.int .i64 (eN (decide (ah < al)) 1 (eN (decide (wrap64 ah < wrap64 al)) (wl) (wrap64 al))), .int .i64 (eN (decide (ah < al)) 0 (eN (decide (wrap64 ah < wrap64 al)) (wh) (wrap64 ah)))]) ∧ Gr w w' := by
  cases e1 : decide (ah < al)
  · cases e2 : decide (wrap64 ah < wrap64 al)
    ·
      have b0 := (At.newb w rfl (.int .u64 al) (.int .u64 ah) 114).c0
      have b1 := (At.newb w rfl (.int .u64 al) (.int .u64 ah) 114).c1
      go_enter Tryz.func170, Tryz.ntmps170
      go_wp2_with (first
        | (go_at_call 106; refine (empty_u _ _ _).mono ?_; rintro e w' ⟨rfl, hw⟩; subst hw))
      go_region_held3 (fun w' => w'.cell? ⟨w.heap.size, 0, none⟩ = some (.int .u64 al) ∧ w'.cell? ⟨w.heap.size, 1, none⟩ = some (.int .u64 ah)) ((refine ⟨?_, ?_⟩ <;> repeat (with_reducible (first | assumption | apply cell_al | apply cell_dr | (refine cell_st (by simp <;> omega) ?_)))))
        (first
        | (go_at_call 171; refine (sign_c _ _).mono ?_; rintro e w' ⟨rfl, hw⟩; subst hw))
      all_goals go_wp2_with (first
        | (go_at_call 107; refine (empty_s _ _ _).mono ?_; rintro e w' ⟨rfl, hw⟩; subst hw))
      all_goals go_returns
      all_goals exact ⟨by simp [eN], by go_grown, by go_grown⟩
    ·
      have b0 := (At.newb w rfl (.int .u64 al) (.int .u64 ah) 114).c0
      have b1 := (At.newb w rfl (.int .u64 al) (.int .u64 ah) 114).c1
      go_enter Tryz.func170, Tryz.ntmps170
      go_wp2_with (first
        | (go_at_call 106; refine (empty_u _ _ _).mono ?_; rintro e w' ⟨rfl, hw⟩; subst hw))
      go_region_held3 (fun w' => w'.cell? ⟨w.heap.size, 0, none⟩ = some (.int .u64 al) ∧ w'.cell? ⟨w.heap.size, 1, none⟩ = some (.int .u64 ah)) ((refine ⟨?_, ?_⟩ <;> repeat (with_reducible (first | assumption | apply cell_al | apply cell_dr | (refine cell_st (by simp <;> omega) ?_)))))
        (first
        | (go_at_call 171; refine (sign_c _ _).mono ?_; rintro e w' ⟨rfl, hw⟩; subst hw))
      all_goals go_wp2_with (first
        | (go_at_call 107; refine (empty_s _ _ _).mono ?_; rintro e w' ⟨rfl, hw⟩; subst hw))
      all_goals go_returns
      all_goals exact ⟨by simp [eN], by go_grown, by go_grown⟩
  · go_enter Tryz.func170, Tryz.ntmps170
    go_wp2_with (first
      | (go_at_call 106; refine (empty_u _ _ _).mono ?_; rintro e w' ⟨rfl, hw⟩; subst hw)
      | (go_at_call 176; refine (nothing_s _).mono ?_; rintro e w' ⟨rfl, hw⟩; subst hw))
    go_returns
    exact ⟨by simp [eN], by go_grown, by go_grown⟩
set_option maxHeartbeats 4000000 in
theorem taken_bare (al ah wl wh : Int) (w : World) : Calls Tryz.prog 172 #[.agg #[.int .i64 al, .int .i64 ah], .agg #[.int .u64 wl, .int .u64 wh], .func (.func 173) #[] #[]] w fun e w' => e = .returned (.agg #[.int .u64 (eN (decide (ah < al)) 1 (eN (decide (IntKind.u64.wrap ah < IntKind.u64.wrap al)) (wl) (IntKind.u64.wrap al))), .int .u64 (eN (decide (ah < al)) 0 (eN (decide (IntKind.u64.wrap ah < IntKind.u64.wrap al)) (wh) (IntKind.u64.wrap ah)))]) ∧ Gr w w' := by
  cases e1 : decide (ah < al)
  · cases e2 : decide (IntKind.u64.wrap ah < IntKind.u64.wrap al)
    ·
      have b0 := (At.newb w rfl (.int .i64 al) (.int .i64 ah) 116).c0
      have b1 := (At.newb w rfl (.int .i64 al) (.int .i64 ah) 116).c1
      go_enter Tryz.func172, Tryz.ntmps172
      go_wp2_with (first
        | (go_at_call 107; refine (empty_s _ _ _).mono ?_; rintro e w' ⟨rfl, hw⟩; subst hw))
      go_region_held3 (fun w' => w'.cell? ⟨w.heap.size, 0, none⟩ = some (.int .i64 al) ∧ w'.cell? ⟨w.heap.size, 1, none⟩ = some (.int .i64 ah)) ((refine ⟨?_, ?_⟩ <;> repeat (with_reducible (first | assumption | apply cell_al | apply cell_dr | (refine cell_st (by simp <;> omega) ?_)))))
        (first
        | (go_at_call 173; refine (bare_c _ _).mono ?_; rintro e w' ⟨rfl, hw⟩; subst hw))
      all_goals go_wp2_with (first
        | (go_at_call 106; refine (empty_u _ _ _).mono ?_; rintro e w' ⟨rfl, hw⟩; subst hw))
      all_goals go_returns
      all_goals exact ⟨by simp [eN], by go_grown, by go_grown⟩
    ·
      have b0 := (At.newb w rfl (.int .i64 al) (.int .i64 ah) 116).c0
      have b1 := (At.newb w rfl (.int .i64 al) (.int .i64 ah) 116).c1
      go_enter Tryz.func172, Tryz.ntmps172
      go_wp2_with (first
        | (go_at_call 107; refine (empty_s _ _ _).mono ?_; rintro e w' ⟨rfl, hw⟩; subst hw))
      go_region_held3 (fun w' => w'.cell? ⟨w.heap.size, 0, none⟩ = some (.int .i64 al) ∧ w'.cell? ⟨w.heap.size, 1, none⟩ = some (.int .i64 ah)) ((refine ⟨?_, ?_⟩ <;> repeat (with_reducible (first | assumption | apply cell_al | apply cell_dr | (refine cell_st (by simp <;> omega) ?_)))))
        (first
        | (go_at_call 173; refine (bare_c _ _).mono ?_; rintro e w' ⟨rfl, hw⟩; subst hw))
      all_goals go_wp2_with (first
        | (go_at_call 106; refine (empty_u _ _ _).mono ?_; rintro e w' ⟨rfl, hw⟩; subst hw))
      all_goals go_returns
      all_goals exact ⟨by simp [eN], by go_grown, by go_grown⟩
  · go_enter Tryz.func172, Tryz.ntmps172
    go_wp2_with (first
      | (go_at_call 107; refine (empty_s _ _ _).mono ?_; rintro e w' ⟨rfl, hw⟩; subst hw)
      | (go_at_call 175; refine (nothing_u _).mono ?_; rintro e w' ⟨rfl, hw⟩; subst hw))
    go_returns
    exact ⟨by simp [eN], by go_grown, by go_grown⟩
end Go.Proofs.YtekenpgagfmgkaaGreat
