/- Towards the statements of package bound (layer 5): one way of a bound that is told another row, in its place. -/
import Derived.Test.YtcbcijibgpaipaaGreatBC
import Derived.Test.YtcbcijibgpaipaaGreatMeet
namespace Go.Proofs.YtcbcijibgpaipaaGreat
open Go.ChangeShapes Go.WideShapes Go.ChangeAt Go.RowKit
open Tn (iv)
set_option linter.unusedVariables false
set_option maxRecDepth 20000

theorem eN_none (a b : Int) : decide (eN (decide (b < a)) 0 b < eN (decide (b < a)) 1 a) = decide (b < a) := by
  cases h : decide (b < a)
  · simpa [eN] using h
  · simp [eN]
set_option maxHeartbeats 2000000 in
theorem meetU_any (p : Nat) (tv tm : BitVec 64) (ul uh sl sh wl wh vl vh : Int) (bl bh : Int) (w : World) (hp : AtA w p #[.int .u64 (iv tv), .int .u64 (iv tm), .int .u64 ul, .int .u64 uh, .int .i64 sl, .int .i64 sh, .int .u64 wl, .int .u64 wh, .int .i64 vl, .int .i64 vh] 30) : Calls Tryz.prog 93 #[.pointer (some ⟨p, 2, none⟩), .agg #[.int .u64 bl, .int .u64 bh]] w fun e w' => e = .returned (.bool (!(decide (min uh bh < max ul bl)))) ∧ AtA w' p #[.int .u64 (iv tv), .int .u64 (iv tm), .int .u64 (eN (decide (min uh bh < max ul bl)) 1 (max ul bl)), .int .u64 (eN (decide (min uh bh < max ul bl)) 0 (min uh bh)), .int .i64 sl, .int .i64 sh, .int .u64 wl, .int .u64 wh, .int .i64 vl, .int .i64 vh] 30 ∧ GrX p w w' := by
  have HP := (hp.alloc (.cells #[.int .u64 bl, .int .u64 bh] 26))
  have c0 := HP.cell 2
  have c1 := HP.cell 3
  simp only [List.getElem?_toArray, List.getElem?_cons_zero, List.getElem?_cons_succ] at c0 c1
  have HQ : Hid (AtA _ p _ 30) := HP
  clear HP hp
  go_enter Tryz.func93, Tryz.ntmps93
  go_wp2_with fail
  go_region_with (first
    | (go_at_call 67; refine (meet_u _ _ _ _ _).mono ?_; rintro e w1 ⟨rfl, hg⟩; have hx := (HQ.out.drew.gr hg); have f0 := hx.f 2; have f1 := hx.f 3; have d0 := hx.cell 2; have d1 := hx.cell 3; have hy := (hx.st 2 (.int .u64 (eN (decide (min uh bh < max ul bl)) 1 (max ul bl)))).st 3 (.int .u64 (eN (decide (min uh bh < max ul bl)) 0 (min uh bh))); have e0 := hy.cell 2; have e1 := hy.cell 3; simp only [List.getElem?_toArray, List.getElem?_cons_zero, List.getElem?_cons_succ, zs, z0, z1] at d0 d1 e0 e1 hy; have hy2 : Hid (AtA _ p _ 30) := hy; have hG : Hid (Gr _ w1) := hg; clear hx hy hg))
  all_goals go_wp2_with (first
    | (go_at_call 55; refine (none_u _ _ _).mono ?_; rintro e w' ⟨rfl, hw⟩; rw [hw]; clear hw))
  all_goals go_ret
  all_goals exact ⟨by simp [eN_none], (hy2.out.alloc _).alloc _, ((((GrX.of ⟨by go_grown, by go_grown⟩ : GrX p w _).trans (GrX.of hG.out)).trans (GrX.set _ _)).trans (GrX.set _ _)).trans (GrX.of ⟨by go_grown, by go_grown⟩)⟩
set_option maxHeartbeats 2000000 in
theorem meetW_any (p : Nat) (tv tm : BitVec 64) (ul uh sl sh wl wh vl vh : Int) (bl bh : Int) (w : World) (hp : AtA w p #[.int .u64 (iv tv), .int .u64 (iv tm), .int .u64 ul, .int .u64 uh, .int .i64 sl, .int .i64 sh, .int .u64 wl, .int .u64 wh, .int .i64 vl, .int .i64 vh] 30) : Calls Tryz.prog 93 #[.pointer (some ⟨p, 6, none⟩), .agg #[.int .u64 bl, .int .u64 bh]] w fun e w' => e = .returned (.bool (!(decide (min wh bh < max wl bl)))) ∧ AtA w' p #[.int .u64 (iv tv), .int .u64 (iv tm), .int .u64 ul, .int .u64 uh, .int .i64 sl, .int .i64 sh, .int .u64 (eN (decide (min wh bh < max wl bl)) 1 (max wl bl)), .int .u64 (eN (decide (min wh bh < max wl bl)) 0 (min wh bh)), .int .i64 vl, .int .i64 vh] 30 ∧ GrX p w w' := by
  have HP := (hp.alloc (.cells #[.int .u64 bl, .int .u64 bh] 26))
  have c0 := HP.cell 6
  have c1 := HP.cell 7
  simp only [List.getElem?_toArray, List.getElem?_cons_zero, List.getElem?_cons_succ] at c0 c1
  have HQ : Hid (AtA _ p _ 30) := HP
  clear HP hp
  go_enter Tryz.func93, Tryz.ntmps93
  go_wp2_with fail
  go_region_with (first
    | (go_at_call 67; refine (meet_u _ _ _ _ _).mono ?_; rintro e w1 ⟨rfl, hg⟩; have hx := (HQ.out.drew.gr hg); have f0 := hx.f 6; have f1 := hx.f 7; have d0 := hx.cell 6; have d1 := hx.cell 7; have hy := (hx.st 6 (.int .u64 (eN (decide (min wh bh < max wl bl)) 1 (max wl bl)))).st 7 (.int .u64 (eN (decide (min wh bh < max wl bl)) 0 (min wh bh))); have e0 := hy.cell 6; have e1 := hy.cell 7; simp only [List.getElem?_toArray, List.getElem?_cons_zero, List.getElem?_cons_succ, zs, z0, z1] at d0 d1 e0 e1 hy; have hy2 : Hid (AtA _ p _ 30) := hy; have hG : Hid (Gr _ w1) := hg; clear hx hy hg))
  all_goals go_wp2_with (first
    | (go_at_call 55; refine (none_u _ _ _).mono ?_; rintro e w' ⟨rfl, hw⟩; rw [hw]; clear hw))
  all_goals go_ret
  all_goals exact ⟨by simp [eN_none], (hy2.out.alloc _).alloc _, ((((GrX.of ⟨by go_grown, by go_grown⟩ : GrX p w _).trans (GrX.of hG.out)).trans (GrX.set _ _)).trans (GrX.set _ _)).trans (GrX.of ⟨by go_grown, by go_grown⟩)⟩
set_option maxHeartbeats 2000000 in
theorem cutS_any (p : Nat) (tv tm : BitVec 64) (ul uh sl sh wl wh vl vh : Int) (bl bh : Int) (w : World) (hp : AtA w p #[.int .u64 (iv tv), .int .u64 (iv tm), .int .u64 ul, .int .u64 uh, .int .i64 sl, .int .i64 sh, .int .u64 wl, .int .u64 wh, .int .i64 vl, .int .i64 vh] 30) : Calls Tryz.prog 96 #[.pointer (some ⟨p, 4, none⟩), .agg #[.int .i64 bl, .int .i64 bh]] w fun e w' => e = .returned (.bool (!(decide (min sh bh < max sl bl)))) ∧ AtA w' p #[.int .u64 (iv tv), .int .u64 (iv tm), .int .u64 ul, .int .u64 uh, .int .i64 (eN (decide (min sh bh < max sl bl)) 1 (max sl bl)), .int .i64 (eN (decide (min sh bh < max sl bl)) 0 (min sh bh)), .int .u64 wl, .int .u64 wh, .int .i64 vl, .int .i64 vh] 30 ∧ GrX p w w' := by
  have HP := (hp.alloc (.cells #[.int .i64 bl, .int .i64 bh] 28))
  have c0 := HP.cell 4
  have c1 := HP.cell 5
  simp only [List.getElem?_toArray, List.getElem?_cons_zero, List.getElem?_cons_succ] at c0 c1
  have HQ : Hid (AtA _ p _ 30) := HP
  clear HP hp
  go_enter Tryz.func96, Tryz.ntmps96
  go_wp2_with fail
  go_region_with (first
    | (go_at_call 68; refine (meet_s _ _ _ _ _).mono ?_; rintro e w1 ⟨rfl, hg⟩; have hx := (HQ.out.drew.gr hg); have f0 := hx.f 4; have f1 := hx.f 5; have d0 := hx.cell 4; have d1 := hx.cell 5; have hy := (hx.st 4 (.int .i64 (eN (decide (min sh bh < max sl bl)) 1 (max sl bl)))).st 5 (.int .i64 (eN (decide (min sh bh < max sl bl)) 0 (min sh bh))); have e0 := hy.cell 4; have e1 := hy.cell 5; simp only [List.getElem?_toArray, List.getElem?_cons_zero, List.getElem?_cons_succ, zs, z0, z1] at d0 d1 e0 e1 hy; have hy2 : Hid (AtA _ p _ 30) := hy; have hG : Hid (Gr _ w1) := hg; clear hx hy hg))
  all_goals go_wp2_with (first
    | (go_at_call 56; refine (none_s _ _ _).mono ?_; rintro e w' ⟨rfl, hw⟩; rw [hw]; clear hw))
  all_goals go_ret
  all_goals exact ⟨by simp [eN_none], (hy2.out.alloc _).alloc _, ((((GrX.of ⟨by go_grown, by go_grown⟩ : GrX p w _).trans (GrX.of hG.out)).trans (GrX.set _ _)).trans (GrX.set _ _)).trans (GrX.of ⟨by go_grown, by go_grown⟩)⟩
set_option maxHeartbeats 2000000 in
theorem cutV_any (p : Nat) (tv tm : BitVec 64) (ul uh sl sh wl wh vl vh : Int) (bl bh : Int) (w : World) (hp : AtA w p #[.int .u64 (iv tv), .int .u64 (iv tm), .int .u64 ul, .int .u64 uh, .int .i64 sl, .int .i64 sh, .int .u64 wl, .int .u64 wh, .int .i64 vl, .int .i64 vh] 30) : Calls Tryz.prog 96 #[.pointer (some ⟨p, 8, none⟩), .agg #[.int .i64 bl, .int .i64 bh]] w fun e w' => e = .returned (.bool (!(decide (min vh bh < max vl bl)))) ∧ AtA w' p #[.int .u64 (iv tv), .int .u64 (iv tm), .int .u64 ul, .int .u64 uh, .int .i64 sl, .int .i64 sh, .int .u64 wl, .int .u64 wh, .int .i64 (eN (decide (min vh bh < max vl bl)) 1 (max vl bl)), .int .i64 (eN (decide (min vh bh < max vl bl)) 0 (min vh bh))] 30 ∧ GrX p w w' := by
  have HP := (hp.alloc (.cells #[.int .i64 bl, .int .i64 bh] 28))
  have c0 := HP.cell 8
  have c1 := HP.cell 9
  simp only [List.getElem?_toArray, List.getElem?_cons_zero, List.getElem?_cons_succ] at c0 c1
  have HQ : Hid (AtA _ p _ 30) := HP
  clear HP hp
  go_enter Tryz.func96, Tryz.ntmps96
  go_wp2_with fail
  go_region_with (first
    | (go_at_call 68; refine (meet_s _ _ _ _ _).mono ?_; rintro e w1 ⟨rfl, hg⟩; have hx := (HQ.out.drew.gr hg); have f0 := hx.f 8; have f1 := hx.f 9; have d0 := hx.cell 8; have d1 := hx.cell 9; have hy := (hx.st 8 (.int .i64 (eN (decide (min vh bh < max vl bl)) 1 (max vl bl)))).st 9 (.int .i64 (eN (decide (min vh bh < max vl bl)) 0 (min vh bh))); have e0 := hy.cell 8; have e1 := hy.cell 9; simp only [List.getElem?_toArray, List.getElem?_cons_zero, List.getElem?_cons_succ, zs, z0, z1] at d0 d1 e0 e1 hy; have hy2 : Hid (AtA _ p _ 30) := hy; have hG : Hid (Gr _ w1) := hg; clear hx hy hg))
  all_goals go_wp2_with (first
    | (go_at_call 56; refine (none_s _ _ _).mono ?_; rintro e w' ⟨rfl, hw⟩; rw [hw]; clear hw))
  all_goals go_ret
  all_goals exact ⟨by simp [eN_none], (hy2.out.alloc _).alloc _, ((((GrX.of ⟨by go_grown, by go_grown⟩ : GrX p w _).trans (GrX.of hG.out)).trans (GrX.set _ _)).trans (GrX.set _ _)).trans (GrX.of ⟨by go_grown, by go_grown⟩)⟩
set_option maxHeartbeats 2000000 in
theorem know_any (p : Nat) (tv tm : BitVec 64) (ul uh sl sh wl wh vl vh : Int) (v m : BitVec 64) (w : World) (hp : AtA w p #[.int .u64 (iv tv), .int .u64 (iv tm), .int .u64 ul, .int .u64 uh, .int .i64 sl, .int .i64 sh, .int .u64 wl, .int .u64 wh, .int .i64 vl, .int .i64 vh] 30) : Calls Tryz.prog 103 #[.pointer (some ⟨p, 0, none⟩), .agg #[.int .u64 (iv v), .int .u64 (iv m)]] w fun e w' => e = .returned (.bool (Tn.meetX tv tm v m)) ∧ AtA w' p #[.int .u64 (iv (Tn.mtV tv tm v m)), .int .u64 (iv (Tn.mtM tv tm v m)), .int .u64 ul, .int .u64 uh, .int .i64 sl, .int .i64 sh, .int .u64 wl, .int .u64 wh, .int .i64 vl, .int .i64 vh] 30 ∧ GrX p w w' := by
  have hpl : p < w.heap.size := hp.lt
  have HP := (hp.alloc (.cells #[.int .u64 (iv v), .int .u64 (iv m)] 24))
  have c0 := HP.cell 0
  have c1 := HP.cell 1
  simp only [List.getElem?_toArray, List.getElem?_cons_zero, List.getElem?_cons_succ] at c0 c1
  have c2 : ((w.alloc (.cells #[.int .u64 (iv v), .int .u64 (iv m)] 24)).alloc (.cells #[.int .u64 0, .int .u64 0] 24)).cell? ⟨p, 0, none⟩ = _ := cell_al c0
  have c3 : ((w.alloc (.cells #[.int .u64 (iv v), .int .u64 (iv m)] 24)).alloc (.cells #[.int .u64 0, .int .u64 0] 24)).cell? ⟨p, 1, none⟩ = _ := cell_al c1
  have HQ : Hid (AtA _ p _ 30) := HP
  clear HP hp
  go_enter Tryz.func103, Tryz.ntmps103
  go_wp2_with fail
  go_region_with (first
    | (go_at_call 66; refine (cv (Tn.meet_any _ _ _ _ _)).mono ?_; rintro e w1 ⟨rfl, hg⟩; have hx : Hid (AtA w1 p _ 30) := ((HQ.out.alloc _).drew.gr hg); have hz : AtA w1 (w.heap.size + 1) #[.int .u64 0, .int .u64 0] 24 := (AtA.newb _ (by simp) _ _).drew.gr hg; have f0 := hz.f 0; have f1 := hz.f 1; have d0 := hz.cell 0; have d1 := hz.cell 1; have hy := (hz.st 0 (.int .u64 (iv (Tn.mtV tv tm v m)))).st 1 (.int .u64 (iv (Tn.mtM tv tm v m))); have e0 := hy.cell 0; have e1 := hy.cell 1; simp only [List.getElem?_toArray, List.getElem?_cons_zero, List.getElem?_cons_succ, zs, z0, z1] at d0 d1 e0 e1; have hx2 := (hx.out.other (show p ≠ w.heap.size + 1 by omega) (o := 0) (.int .u64 (iv (Tn.mtV tv tm v m)))).other (show p ≠ w.heap.size + 1 by omega) (o := 1) (.int .u64 (iv (Tn.mtM tv tm v m))); have g0 := hx2.f 0; have g1 := hx2.f 1; have h0 := hx2.cell 0; have h1 := hx2.cell 1; simp only [List.getElem?_toArray, List.getElem?_cons_zero, List.getElem?_cons_succ] at h0 h1; have hx3 := (hx2.st 0 (.int .u64 (iv (Tn.mtV tv tm v m)))).st 1 (.int .u64 (iv (Tn.mtM tv tm v m))); simp only [zs, z0, z1] at hx3; have hX : Hid (AtA _ p _ 30) := hx3; have hG1 : Hid (GrX p w _) := (((GrX.of ⟨by go_grown, by go_grown⟩ : GrX p w _).trans (GrX.of hg))); clear hg hx3 hx2 hy hz)
    | (go_at_call 66; refine (cv (Tn.meet_any _ _ _ _ _)).mono ?_; rintro e w1 ⟨rfl, hg⟩; have hx : Hid (AtA w1 p _ 30) := (HQ.out.drew.gr hg); have hx2 := hx.out.alloc (.cells #[(.int .u64 (iv (Tn.mtV tv tm v m))), (.int .u64 (iv (Tn.mtM tv tm v m)))] 24); have g0 := hx2.f 0; have g1 := hx2.f 1; have h0 := hx2.cell 0; have h1 := hx2.cell 1; simp only [List.getElem?_toArray, List.getElem?_cons_zero, List.getElem?_cons_succ] at h0 h1; have hx3 := (hx2.st 0 (.int .u64 (iv (Tn.mtV tv tm v m)))).st 1 (.int .u64 (iv (Tn.mtM tv tm v m))); simp only [zs, z0, z1] at hx3; have hX : Hid (AtA _ p _ 30) := hx3; have hG2 : Hid (GrX p w _) := (((GrX.of ⟨by go_grown, by go_grown⟩ : GrX p w _).trans (GrX.of hg))); clear hg hx3 hx2))
  all_goals go_wp2_with fail
  all_goals go_ret
  all_goals first
    | exact ⟨by simp, hX.out, (((hG1.out.fresh (by omega) _).fresh (by omega) _).trans (GrX.set _ _)).trans (GrX.set _ _)⟩
    | exact ⟨by simp, hX.out, ((hG2.out.trans (GrX.of ⟨by go_grown, by go_grown⟩)).trans (GrX.set _ _)).trans (GrX.set _ _)⟩
end Go.Proofs.YtcbcijibgpaipaaGreat
