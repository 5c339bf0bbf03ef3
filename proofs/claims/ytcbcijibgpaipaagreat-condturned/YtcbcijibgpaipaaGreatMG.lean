/- Towards the statements of package span (layer 4): spans as reaches, and the other way. Towards the statements of package span (layer 4): the answers of the document, in the words of the program: sums, differences, products, shifts. Towards the statements of package span (layer 4): the answers of the document, in the words of the program: shifts, and numbers with a sign. Towards the statements of package span (layer 4): spans as reaches, and the other way, of the program and of the document; sums and differences of reaches in the document. -/
import Derived.Test.YtcbcijibgpaipaaGreatMC
section
namespace Go.Proofs.YtcbcijibgpaipaaGreat
open Go.ChangeShapes Go.WideShapes Go.ChangeAt Go.RowKit
set_option linter.unusedVariables false
set_option maxRecDepth 20000

theorem sign_c (x : Int) (w : World) : Calls Tryz.prog 198 #[.int .u64 x] w fun e w' => e = .returned (.int .i64 (wrap64 x)) ∧ w' = w := by
  go_enter Tryz.func198, Tryz.ntmps198
  go_wp2
  go_ret
  exact ⟨rfl, rfl⟩
theorem bare_c (x : Int) (w : World) : Calls Tryz.prog 200 #[.int .i64 x] w fun e w' => e = .returned (.int .u64 (IntKind.u64.wrap x)) ∧ w' = w := by
  go_enter Tryz.func200, Tryz.ntmps200
  go_wp2
  go_ret
  exact ⟨rfl, rfl⟩
set_option maxHeartbeats 4000000 in
theorem taken_sign (al ah wl wh : Int) (w : World) : Calls Tryz.prog 197 #[.agg #[.int .u64 al, .int .u64 ah], .agg #[.int .i64 wl, .int .i64 wh], .func (.func 198) #[] #[]] w fun e w' => e = .returned (.agg #[.int .i64 (eN (decide (ah < al)) 1 (eN (decide (wrap64 ah < wrap64 al)) (wl) (wrap64 al))), .int .i64 (eN (decide (ah < al)) 0 (eN (decide (wrap64 ah < wrap64 al)) (wh) (wrap64 ah)))]) ∧ Gr w w' := by
  cases e1 : decide (ah < al)
  · cases e2 : decide (wrap64 ah < wrap64 al)
    ·
      have b0 := (At.newb w rfl (.int .u64 al) (.int .u64 ah) 130).c0
      have b1 := (At.newb w rfl (.int .u64 al) (.int .u64 ah) 130).c1
      go_enter Tryz.func197, Tryz.ntmps197
      go_wp2_with (first
        | (go_at_call 121; refine (empty_u _ _ _).mono ?_; rintro e w' ⟨rfl, hw⟩; subst hw))
      go_region_held3 (fun w' => w'.cell? ⟨w.heap.size, 0, none⟩ = some (.int .u64 al) ∧ w'.cell? ⟨w.heap.size, 1, none⟩ = some (.int .u64 ah)) ((refine ⟨?_, ?_⟩ <;> repeat (with_reducible (first | assumption | apply cell_al | apply cell_dr | (refine cell_st (by simp <;> omega) ?_)))))
        (first
        | (go_at_call 198; refine (sign_c _ _).mono ?_; rintro e w' ⟨rfl, hw⟩; subst hw))
      all_goals go_wp2_with (first
        | (go_at_call 122; refine (empty_s _ _ _).mono ?_; rintro e w' ⟨rfl, hw⟩; subst hw))
      all_goals go_returns
      all_goals exact ⟨by simp [eN], by go_grown, by go_grown⟩
    ·
      have b0 := (At.newb w rfl (.int .u64 al) (.int .u64 ah) 130).c0
      have b1 := (At.newb w rfl (.int .u64 al) (.int .u64 ah) 130).c1
      go_enter Tryz.func197, Tryz.ntmps197
      go_wp2_with (first
        | (go_at_call 121; refine (empty_u _ _ _).mono ?_; rintro e w' ⟨rfl, hw⟩; subst hw))
      go_region_held3 (fun w' => w'.cell? ⟨w.heap.size, 0, none⟩ = some (.int .u64 al) ∧ w'.cell? ⟨w.heap.size, 1, none⟩ = some (.int .u64 ah)) ((refine ⟨?_, ?_⟩ <;> repeat (with_reducible (first | assumption | apply cell_al | apply cell_dr | (refine cell_st (by simp <;> omega) ?_)))))
        (first
        | (go_at_call 198; refine (sign_c _ _).mono ?_; rintro e w' ⟨rfl, hw⟩; subst hw))
      all_goals go_wp2_with (first
        | (go_at_call 122; refine (empty_s _ _ _).mono ?_; rintro e w' ⟨rfl, hw⟩; subst hw))
      all_goals go_returns
      all_goals exact ⟨by simp [eN], by go_grown, by go_grown⟩
  · go_enter Tryz.func197, Tryz.ntmps197
    go_wp2_with (first
      | (go_at_call 121; refine (empty_u _ _ _).mono ?_; rintro e w' ⟨rfl, hw⟩; subst hw)
      | (go_at_call 203; refine (nothing_s _).mono ?_; rintro e w' ⟨rfl, hw⟩; subst hw))
    go_returns
    exact ⟨by simp [eN], by go_grown, by go_grown⟩
set_option maxHeartbeats 4000000 in
theorem taken_bare (al ah wl wh : Int) (w : World) : Calls Tryz.prog 199 #[.agg #[.int .i64 al, .int .i64 ah], .agg #[.int .u64 wl, .int .u64 wh], .func (.func 200) #[] #[]] w fun e w' => e = .returned (.agg #[.int .u64 (eN (decide (ah < al)) 1 (eN (decide (IntKind.u64.wrap ah < IntKind.u64.wrap al)) (wl) (IntKind.u64.wrap al))), .int .u64 (eN (decide (ah < al)) 0 (eN (decide (IntKind.u64.wrap ah < IntKind.u64.wrap al)) (wh) (IntKind.u64.wrap ah)))]) ∧ Gr w w' := by
  cases e1 : decide (ah < al)
  · cases e2 : decide (IntKind.u64.wrap ah < IntKind.u64.wrap al)
    ·
      have b0 := (At.newb w rfl (.int .i64 al) (.int .i64 ah) 132).c0
      have b1 := (At.newb w rfl (.int .i64 al) (.int .i64 ah) 132).c1
      go_enter Tryz.func199, Tryz.ntmps199
      go_wp2_with (first
        | (go_at_call 122; refine (empty_s _ _ _).mono ?_; rintro e w' ⟨rfl, hw⟩; subst hw))
      go_region_held3 (fun w' => w'.cell? ⟨w.heap.size, 0, none⟩ = some (.int .i64 al) ∧ w'.cell? ⟨w.heap.size, 1, none⟩ = some (.int .i64 ah)) ((refine ⟨?_, ?_⟩ <;> repeat (with_reducible (first | assumption | apply cell_al | apply cell_dr | (refine cell_st (by simp <;> omega) ?_)))))
        (first
        | (go_at_call 200; refine (bare_c _ _).mono ?_; rintro e w' ⟨rfl, hw⟩; subst hw))
      all_goals go_wp2_with (first
        | (go_at_call 121; refine (empty_u _ _ _).mono ?_; rintro e w' ⟨rfl, hw⟩; subst hw))
      all_goals go_returns
      all_goals exact ⟨by simp [eN], by go_grown, by go_grown⟩
    ·
      have b0 := (At.newb w rfl (.int .i64 al) (.int .i64 ah) 132).c0
      have b1 := (At.newb w rfl (.int .i64 al) (.int .i64 ah) 132).c1
      go_enter Tryz.func199, Tryz.ntmps199
      go_wp2_with (first
        | (go_at_call 122; refine (empty_s _ _ _).mono ?_; rintro e w' ⟨rfl, hw⟩; subst hw))
      go_region_held3 (fun w' => w'.cell? ⟨w.heap.size, 0, none⟩ = some (.int .i64 al) ∧ w'.cell? ⟨w.heap.size, 1, none⟩ = some (.int .i64 ah)) ((refine ⟨?_, ?_⟩ <;> repeat (with_reducible (first | assumption | apply cell_al | apply cell_dr | (refine cell_st (by simp <;> omega) ?_)))))
        (first
        | (go_at_call 200; refine (bare_c _ _).mono ?_; rintro e w' ⟨rfl, hw⟩; subst hw))
      all_goals go_wp2_with (first
        | (go_at_call 121; refine (empty_u _ _ _).mono ?_; rintro e w' ⟨rfl, hw⟩; subst hw))
      all_goals go_returns
      all_goals exact ⟨by simp [eN], by go_grown, by go_grown⟩
  · go_enter Tryz.func199, Tryz.ntmps199
    go_wp2_with (first
      | (go_at_call 122; refine (empty_s _ _ _).mono ?_; rintro e w' ⟨rfl, hw⟩; subst hw)
      | (go_at_call 202; refine (nothing_u _).mono ?_; rintro e w' ⟨rfl, hw⟩; subst hw))
    go_returns
    exact ⟨by simp [eN], by go_grown, by go_grown⟩
end Go.Proofs.YtcbcijibgpaipaaGreat
end
section
namespace Go.Proofs.YtcbcijibgpaipaaGreat
open Go.ChangeShapes Go.WideShapes Go.ChangeAt Go.RowKit
set_option linter.unusedVariables false
set_option maxRecDepth 20000

end Go.Proofs.YtcbcijibgpaipaaGreat
end
section
namespace Go.Proofs.YtcbcijibgpaipaaGreat
open Go.ChangeShapes Go.WideShapes Go.ChangeAt Go.RowKit
set_option linter.unusedVariables false
set_option maxRecDepth 20000

end Go.Proofs.YtcbcijibgpaipaaGreat
end
section
namespace Go.Proofs.YtcbcijibgpaipaaGreat
open Go.ChangeShapes Go.WideShapes Go.ChangeAt Go.RowKit
set_option linter.unusedVariables false
set_option maxRecDepth 20000

set_option maxHeartbeats 2000000 in
theorem sign_any (al ah : Int) (w : World) : Calls Tryz.prog 99 #[.agg #[.int .u64 al, .int .u64 ah]] w fun e w' => e = .returned (.agg #[.int .i64 (eN (decide (ah < al)) 1 (eN (decide (wrap64 ah < wrap64 al)) (-9223372036854775808) (wrap64 al))), .int .i64 (eN (decide (ah < al)) 0 (eN (decide (wrap64 ah < wrap64 al)) (9223372036854775807) (wrap64 ah)))]) ∧ Gr w w' := by
  go_enter Tryz.func99, Tryz.ntmps99
  go_wp2_with fail
  have HA : Hid (At ((w.alloc (.cells #[.int .u64 al, .int .u64 ah] 26)).alloc (.cells #[.int .i64 0, .int .i64 0] 28)) w.heap.size (.int .u64 al) (.int .u64 ah) 26) := (At.newb _ rfl _ _ _).alloc _
  have HX : Hid (At ((w.alloc (.cells #[.int .u64 al, .int .u64 ah] 26)).alloc (.cells #[.int .i64 0, .int .i64 0] 28)) (w.heap.size + 1) (.int .i64 0) (.int .i64 0) 28) := At.newb _ (by simp) _ _ _
  have HF : Hid (Gr w ((w.alloc (.cells #[.int .u64 al, .int .u64 ah] 26)).alloc (.cells #[.int .i64 0, .int .i64 0] 28))) := (⟨by go_grown, by go_grown⟩ : Gr w _)
  revert HA HX HF
  generalize ((w.alloc (.cells #[.int .u64 al, .int .u64 ah] 26)).alloc (.cells #[.int .i64 0, .int .i64 0] 28)) = W
  intro HA HX HF
  have a0 := HA.out.c0
  have a1 := HA.out.c1
  go_region_held3 (fun w' => w'.cell? ⟨w.heap.size, 0, none⟩ = some (.int .u64 al) ∧ w'.cell? ⟨w.heap.size, 1, none⟩ = some (.int .u64 ah)) ((refine ⟨?_, ?_⟩ <;> repeat (with_reducible (first | assumption | apply cell_al | apply cell_dr | (refine cell_gr (by assumption) ?_) | (refine cell_st (by simp <;> omega) ?_)))))
    (first
    | (go_at_call 124; refine (whole_s _).mono ?_; rintro e w' ⟨rfl, hw⟩; subst hw)
    | (go_at_call 197; refine (taken_sign _ _ _ _ _).mono ?_; rintro e w1 ⟨rfl, hg⟩; have hx : At w1 (w.heap.size + 1) (.int .i64 0) (.int .i64 0) 28 := At.gr (by repeat (with_reducible (first | exact HX.out | apply At.drew | apply At.alloc))) hg; have hG : Hid (Gr w w1) := Gr.trans (by repeat (with_reducible (first | exact HF.out | apply Gr.drew | apply Gr.alloc))) hg; have f0 := hx.f0 0; have f1 := hx.f0 1; have c0 := hx.c0; have c1 := hx.c1; have e0 := (hx.set (.int .i64 (eN (decide (ah < al)) 1 (eN (decide (wrap64 ah < wrap64 al)) (-9223372036854775808) (wrap64 al)))) (.int .i64 (eN (decide (ah < al)) 0 (eN (decide (wrap64 ah < wrap64 al)) (9223372036854775807) (wrap64 ah))))).c0; have e1 := (hx.set (.int .i64 (eN (decide (ah < al)) 1 (eN (decide (wrap64 ah < wrap64 al)) (-9223372036854775808) (wrap64 al)))) (.int .i64 (eN (decide (ah < al)) 0 (eN (decide (wrap64 ah < wrap64 al)) (9223372036854775807) (wrap64 ah))))).c1; clear hx))
  all_goals go_wp2_with fail
  all_goals refine bodyPost_ret (by simp [results, Tryz.results99, go_sem, e0, e1]; try rfl) rfl ?_
  all_goals exact ⟨rfl, (hG.out.set (by omega) _).set (by omega) _⟩
set_option maxHeartbeats 2000000 in
theorem bare_any (al ah : Int) (w : World) : Calls Tryz.prog 101 #[.agg #[.int .i64 al, .int .i64 ah]] w fun e w' => e = .returned (.agg #[.int .u64 (eN (decide (ah < al)) 1 (eN (decide (IntKind.u64.wrap ah < IntKind.u64.wrap al)) (0) (IntKind.u64.wrap al))), .int .u64 (eN (decide (ah < al)) 0 (eN (decide (IntKind.u64.wrap ah < IntKind.u64.wrap al)) (18446744073709551615) (IntKind.u64.wrap ah)))]) ∧ Gr w w' := by
  go_enter Tryz.func101, Tryz.ntmps101
  go_wp2_with fail
  have HA : Hid (At ((w.alloc (.cells #[.int .i64 al, .int .i64 ah] 28)).alloc (.cells #[.int .u64 0, .int .u64 0] 26)) w.heap.size (.int .i64 al) (.int .i64 ah) 28) := (At.newb _ rfl _ _ _).alloc _
  have HX : Hid (At ((w.alloc (.cells #[.int .i64 al, .int .i64 ah] 28)).alloc (.cells #[.int .u64 0, .int .u64 0] 26)) (w.heap.size + 1) (.int .u64 0) (.int .u64 0) 26) := At.newb _ (by simp) _ _ _
  have HF : Hid (Gr w ((w.alloc (.cells #[.int .i64 al, .int .i64 ah] 28)).alloc (.cells #[.int .u64 0, .int .u64 0] 26))) := (⟨by go_grown, by go_grown⟩ : Gr w _)
  revert HA HX HF
  generalize ((w.alloc (.cells #[.int .i64 al, .int .i64 ah] 28)).alloc (.cells #[.int .u64 0, .int .u64 0] 26)) = W
  intro HA HX HF
  have a0 := HA.out.c0
  have a1 := HA.out.c1
  go_region_held3 (fun w' => w'.cell? ⟨w.heap.size, 0, none⟩ = some (.int .i64 al) ∧ w'.cell? ⟨w.heap.size, 1, none⟩ = some (.int .i64 ah)) ((refine ⟨?_, ?_⟩ <;> repeat (with_reducible (first | assumption | apply cell_al | apply cell_dr | (refine cell_gr (by assumption) ?_) | (refine cell_st (by simp <;> omega) ?_)))))
    (first
    | (go_at_call 123; refine (whole_u _).mono ?_; rintro e w' ⟨rfl, hw⟩; subst hw)
    | (go_at_call 199; refine (taken_bare _ _ _ _ _).mono ?_; rintro e w1 ⟨rfl, hg⟩; have hx : At w1 (w.heap.size + 1) (.int .u64 0) (.int .u64 0) 26 := At.gr (by repeat (with_reducible (first | exact HX.out | apply At.drew | apply At.alloc))) hg; have hG : Hid (Gr w w1) := Gr.trans (by repeat (with_reducible (first | exact HF.out | apply Gr.drew | apply Gr.alloc))) hg; have f0 := hx.f0 0; have f1 := hx.f0 1; have c0 := hx.c0; have c1 := hx.c1; have e0 := (hx.set (.int .u64 (eN (decide (ah < al)) 1 (eN (decide (IntKind.u64.wrap ah < IntKind.u64.wrap al)) (0) (IntKind.u64.wrap al)))) (.int .u64 (eN (decide (ah < al)) 0 (eN (decide (IntKind.u64.wrap ah < IntKind.u64.wrap al)) (18446744073709551615) (IntKind.u64.wrap ah))))).c0; have e1 := (hx.set (.int .u64 (eN (decide (ah < al)) 1 (eN (decide (IntKind.u64.wrap ah < IntKind.u64.wrap al)) (0) (IntKind.u64.wrap al)))) (.int .u64 (eN (decide (ah < al)) 0 (eN (decide (IntKind.u64.wrap ah < IntKind.u64.wrap al)) (18446744073709551615) (IntKind.u64.wrap ah))))).c1; clear hx))
  all_goals go_wp2_with fail
  all_goals refine bodyPost_ret (by simp [results, Tryz.results101, go_sem, e0, e1]; try rfl) rfl ?_
  all_goals exact ⟨rfl, (hG.out.set (by omega) _).set (by omega) _⟩
end Go.Proofs.YtcbcijibgpaipaaGreat
end
