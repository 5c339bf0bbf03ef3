/- Towards the statements of package cond (layer 6): Sure. -/
import Derived.Test.YtcbcijibgpaipaaGreatCQ
import Derived.Deep.DeepCutAuto
namespace Go.Proofs.YtcbcijibgpaipaaGreat
open Go.ChangeShapes Go.WideShapes Go.ChangeAt Go.RowKit
open Tn (iv)
set_option linter.unusedVariables false
set_option linter.unusedSimpArgs false
set_option maxRecDepth 20000

set_option maxHeartbeats 16000000 in
theorem sure_tt (c : Int) (hc : codeM c) (wd : Bool) (a b : Bd) (ga : Good a) (gb : Good b) (h1 : (refM (tellM c wd true a b)).isSome = true) (h2 : (refM (tellM c wd false a b)).isSome = true) (w : World) : Calls Tryz.prog 30 #[.int .u8 c, .bool wd, .agg (bv a), .agg (bv b)] w fun e w' => e = .returned (.tuple #[.bool false, .bool false, .int .i64 0]) ∧ Gr w w' := by
 go_enter Tryz.func30, Tryz.ntmps30
 go_upto_region 0 with fail
 refine rG ?_
 refine sF rfl ?_
 refine wp_bx_B rfl rfl ?_
 intro ws1 hn1 hg1
 obtain ⟨PN1, hb1⟩ : ∃ b, w.heap.size = b := ⟨_, rfl⟩
 rw [hb1] at hn1 ⊢
 have hge1 := Nat.le_trans (GrL.refl [] w).size (Nat.le_of_eq hb1)
 have hF_1 := (GrL.refl [] w).then hg1
 simp only [Act.put, zs, z0, z1]
 refine sF rfl ?_
 refine wp_bx_B rfl rfl ?_
 intro ws2 hn2 hg2
 obtain ⟨PN2, hb2⟩ : ∃ b, ws1.heap.size = b := ⟨_, rfl⟩
 rw [hb2] at hn2 ⊢
 have hge2 := Nat.le_trans (hF_1).size (Nat.le_of_eq hb2)
 have hnePN1_PN2 : PN1 ≠ PN2 := nl (hn1).lt hb2
 have hPN1_2 := (hn1).gr hg2
 have hF_2 := (hF_1).then hg2
 simp only [Act.put, zs, z0, z1]
 refine sF rfl ?_
 refine wA (v := .bool false) rfl rfl ?_
 simp only [Act.put, zs, z0, z1]
 refine sF rfl ?_
 refine wA (v := .bool false) rfl rfl ?_
 simp only [Act.put, zs, z0, z1]
 refine sF rfl ?_
 refine wA (v := .int .i64 0) rfl rfl ?_
 simp only [Act.put, zs, z0, z1]
 refine s_end ?_
 go_upto_region 1 with fail
 refine rG ?_
 refine sF rfl ?_
 refine wM (v := .int .u8 c) rfl rfl ?_
 simp only [Act.put, zs, z0, z1]
 refine sF rfl ?_
 refine wM (v := .bool wd) rfl rfl ?_
 simp only [Act.put, zs, z0, z1]
 refine sF rfl ?_
 refine wp_loadB rfl rfl (hPN1_2) ?_
 simp only [Act.put, zs, z0, z1]
 refine sF rfl ?_
 refine wp_loadB rfl rfl (hn2) ?_
 simp only [Act.put, zs, z0, z1]
 refine sF rfl ?_
 refine wp_call5 rfl rfl rfl rfl rfl rfl (by go_simp) ?_
 refine ((fun w => k_ref (so := true) hc ga gb w) _).mono ?_
 rintro e wk3 ⟨he3, hk3⟩
 obtain rfl : e = .returned (.tuple #[.agg (bv (rx (refM (tellM c wd true a b)))), .agg (bv (ry (refM (tellM c wd true a b)))), .bool true, .int .i64 0]) := he3.trans (by rw [h1])
 clear he3
 refine ⟨_, rfl, ?_⟩
 have hPN1_3 := (hPN1_2).gr hk3
 have hPN2_3 := (hn2).gr hk3
 have hF_3 := (hF_2).then hk3
 simp only [Act.put, zs, z0, z1]
 refine sF rfl ?_
 refine wM (v := .tuple #[.agg (bv (rx (refM (tellM c wd true a b)))), .agg (bv (ry (refM (tellM c wd true a b)))), .bool true, .int .i64 0]) rfl rfl ?_
 simp only [Act.put, zs, z0, z1]
 refine sF rfl ?_
 refine wp_extract (v := .agg (bv (rx (refM (tellM c wd true a b))))) rfl rfl rfl ?_
 simp only [Act.put, zs, z0, z1]
 refine sF rfl ?_
 refine wp_extract (v := .agg (bv (ry (refM (tellM c wd true a b))))) rfl rfl rfl ?_
 simp only [Act.put, zs, z0, z1]
 refine sF rfl ?_
 refine wp_extract (v := .bool true) rfl rfl rfl ?_
 simp only [Act.put, zs, z0, z1]
 refine sF rfl ?_
 refine wp_extract (v := .int .i64 0) rfl rfl rfl ?_
 simp only [Act.put, zs, z0, z1]
 refine sF rfl ?_
 refine wp_allocB rfl ?_
 intro ws4 hn4 hg4
 obtain ⟨PN4, hb4⟩ : ∃ b, wk3.heap.size = b := ⟨_, rfl⟩
 rw [hb4] at hn4 ⊢
 have hge4 := Nat.le_trans (hF_3).size (Nat.le_of_eq hb4)
 have hnePN1_PN4 : PN1 ≠ PN4 := nl (hPN1_3).lt hb4
 have hnePN2_PN4 : PN2 ≠ PN4 := nl (hPN2_3).lt hb4
 have hPN1_4 := (hPN1_3).gr hg4
 have hPN2_4 := (hPN2_3).gr hg4
 have hF_4 := (hF_3).then hg4
 simp only [Act.put, zs, z0, z1]
 refine sF rfl ?_
 refine wp_allocB rfl ?_
 intro ws5 hn5 hg5
 obtain ⟨PN5, hb5⟩ : ∃ b, ws4.heap.size = b := ⟨_, rfl⟩
 rw [hb5] at hn5 ⊢
 have hge5 := Nat.le_trans (hF_4).size (Nat.le_of_eq hb5)
 have hnePN1_PN5 : PN1 ≠ PN5 := nl (hPN1_4).lt hb5
 have hnePN2_PN5 : PN2 ≠ PN5 := nl (hPN2_4).lt hb5
 have hnePN4_PN5 : PN4 ≠ PN5 := nl (hn4).lt hb5
 have hPN1_5 := (hPN1_4).gr hg5
 have hPN2_5 := (hPN2_4).gr hg5
 have hPN4_5 := (hn4).gr hg5
 have hF_5 := (hF_4).then hg5
 simp only [Act.put, zs, z0, z1]
 refine sF rfl ?_
 refine wp_storeB rfl rfl rfl (hPN4_5) ?_
 intro ws6 hs6 gx6
 have hPN1_6 := (hPN1_5).grx gx6 hnePN1_PN4
 have hPN2_6 := (hPN2_5).grx gx6 hnePN2_PN4
 have hPN5_6 := (hn5).grx gx6 (Ne.symm hnePN4_PN5)
 have hF_6 := (hF_5).thenx gx6 (.inr hge4)
 change AtA ws6 PN4 (bv (rx (refM (tellM c wd true a b)))) 30 at hs6
 simp only [Act.put, zs, z0, z1]
 refine sF rfl ?_
 refine wp_storeB rfl rfl rfl (hPN5_6) ?_
 intro ws7 hs7 gx7
 have hPN1_7 := (hPN1_6).grx gx7 hnePN1_PN5
 have hPN2_7 := (hPN2_6).grx gx7 hnePN2_PN5
 have hPN4_7 := (hs6).grx gx7 hnePN4_PN5
 have hF_7 := (hF_6).thenx gx7 (.inr hge5)
 change AtA ws7 PN5 (bv (ry (refM (tellM c wd true a b)))) 30 at hs7
 simp only [Act.put, zs, z0, z1]
 refine sF rfl ?_
 refine wA (v := .bool true) rfl rfl ?_
 simp only [Act.put, zs, z0, z1]
 refine sF rfl ?_
 refine wA (v := .int .i64 0) rfl rfl ?_
 simp only [Act.put, zs, z0, z1]
 refine s_end ?_
 go_upto_region 2 with fail
 refine rG ?_
 refine sF rfl ?_
 refine wM (v := .int .u8 c) rfl rfl ?_
 simp only [Act.put, zs, z0, z1]
 refine sF rfl ?_
 refine wM (v := .bool wd) rfl rfl ?_
 simp only [Act.put, zs, z0, z1]
 refine sF rfl ?_
 refine wp_loadB rfl rfl (hPN1_7) ?_
 simp only [Act.put, zs, z0, z1]
 refine sF rfl ?_
 refine wp_loadB rfl rfl (hPN2_7) ?_
 simp only [Act.put, zs, z0, z1]
 refine sF rfl ?_
 refine wp_call5 rfl rfl rfl rfl rfl rfl (by go_simp) ?_
 refine ((fun w => k_ref (so := false) hc ga gb w) _).mono ?_
 rintro e wk8 ⟨he8, hk8⟩
 obtain rfl : e = .returned (.tuple #[.agg (bv (rx (refM (tellM c wd false a b)))), .agg (bv (ry (refM (tellM c wd false a b)))), .bool true, .int .i64 0]) := he8.trans (by rw [h2])
 clear he8
 refine ⟨_, rfl, ?_⟩
 have hPN1_8 := (hPN1_7).gr hk8
 have hPN2_8 := (hPN2_7).gr hk8
 have hPN4_8 := (hPN4_7).gr hk8
 have hPN5_8 := (hs7).gr hk8
 have hF_8 := (hF_7).then hk8
 simp only [Act.put, zs, z0, z1]
 refine sF rfl ?_
 refine wM (v := .tuple #[.agg (bv (rx (refM (tellM c wd false a b)))), .agg (bv (ry (refM (tellM c wd false a b)))), .bool true, .int .i64 0]) rfl rfl ?_
 simp only [Act.put, zs, z0, z1]
 refine sF rfl ?_
 refine wp_extract (v := .agg (bv (rx (refM (tellM c wd false a b))))) rfl rfl rfl ?_
 simp only [Act.put, zs, z0, z1]
 refine sF rfl ?_
 refine wp_extract (v := .agg (bv (ry (refM (tellM c wd false a b))))) rfl rfl rfl ?_
 simp only [Act.put, zs, z0, z1]
 refine sF rfl ?_
 refine wp_extract (v := .bool true) rfl rfl rfl ?_
 simp only [Act.put, zs, z0, z1]
 refine sF rfl ?_
 refine wp_extract (v := .int .i64 0) rfl rfl rfl ?_
 simp only [Act.put, zs, z0, z1]
 refine sF rfl ?_
 refine wp_allocB rfl ?_
 intro ws9 hn9 hg9
 obtain ⟨PN9, hb9⟩ : ∃ b, wk8.heap.size = b := ⟨_, rfl⟩
 rw [hb9] at hn9 ⊢
 have hge9 := Nat.le_trans (hF_8).size (Nat.le_of_eq hb9)
 have hnePN1_PN9 : PN1 ≠ PN9 := nl (hPN1_8).lt hb9
 have hnePN2_PN9 : PN2 ≠ PN9 := nl (hPN2_8).lt hb9
 have hnePN4_PN9 : PN4 ≠ PN9 := nl (hPN4_8).lt hb9
 have hnePN5_PN9 : PN5 ≠ PN9 := nl (hPN5_8).lt hb9
 have hPN1_9 := (hPN1_8).gr hg9
 have hPN2_9 := (hPN2_8).gr hg9
 have hPN4_9 := (hPN4_8).gr hg9
 have hPN5_9 := (hPN5_8).gr hg9
 have hF_9 := (hF_8).then hg9
 simp only [Act.put, zs, z0, z1]
 refine sF rfl ?_
 refine wp_allocB rfl ?_
 intro ws10 hn10 hg10
 obtain ⟨PN10, hb10⟩ : ∃ b, ws9.heap.size = b := ⟨_, rfl⟩
 rw [hb10] at hn10 ⊢
 have hge10 := Nat.le_trans (hF_9).size (Nat.le_of_eq hb10)
 have hnePN1_PN10 : PN1 ≠ PN10 := nl (hPN1_9).lt hb10
 have hnePN2_PN10 : PN2 ≠ PN10 := nl (hPN2_9).lt hb10
 have hnePN4_PN10 : PN4 ≠ PN10 := nl (hPN4_9).lt hb10
 have hnePN5_PN10 : PN5 ≠ PN10 := nl (hPN5_9).lt hb10
 have hnePN9_PN10 : PN9 ≠ PN10 := nl (hn9).lt hb10
 have hPN1_10 := (hPN1_9).gr hg10
 have hPN2_10 := (hPN2_9).gr hg10
 have hPN4_10 := (hPN4_9).gr hg10
 have hPN5_10 := (hPN5_9).gr hg10
 have hPN9_10 := (hn9).gr hg10
 have hF_10 := (hF_9).then hg10
 simp only [Act.put, zs, z0, z1]
 refine sF rfl ?_
 refine wp_storeB rfl rfl rfl (hPN9_10) ?_
 intro ws11 hs11 gx11
 have hPN1_11 := (hPN1_10).grx gx11 hnePN1_PN9
 have hPN2_11 := (hPN2_10).grx gx11 hnePN2_PN9
 have hPN4_11 := (hPN4_10).grx gx11 hnePN4_PN9
 have hPN5_11 := (hPN5_10).grx gx11 hnePN5_PN9
 have hPN10_11 := (hn10).grx gx11 (Ne.symm hnePN9_PN10)
 have hF_11 := (hF_10).thenx gx11 (.inr hge9)
 change AtA ws11 PN9 (bv (rx (refM (tellM c wd false a b)))) 30 at hs11
 simp only [Act.put, zs, z0, z1]
 refine sF rfl ?_
 refine wp_storeB rfl rfl rfl (hPN10_11) ?_
 intro ws12 hs12 gx12
 have hPN1_12 := (hPN1_11).grx gx12 hnePN1_PN10
 have hPN2_12 := (hPN2_11).grx gx12 hnePN2_PN10
 have hPN4_12 := (hPN4_11).grx gx12 hnePN4_PN10
 have hPN5_12 := (hPN5_11).grx gx12 hnePN5_PN10
 have hPN9_12 := (hs11).grx gx12 hnePN9_PN10
 have hF_12 := (hF_11).thenx gx12 (.inr hge10)
 change AtA ws12 PN10 (bv (ry (refM (tellM c wd false a b)))) 30 at hs12
 simp only [Act.put, zs, z0, z1]
 refine sF rfl ?_
 refine wA (v := .bool true) rfl rfl ?_
 simp only [Act.put, zs, z0, z1]
 refine sF rfl ?_
 refine wA (v := .int .i64 0) rfl rfl ?_
 simp only [Act.put, zs, z0, z1]
 refine s_end ?_
 go_upto_region 5 with fail
 refine rG ?_
 refine sF rfl ?_
 refine wp_loadB rfl rfl (hPN1_12) ?_
 simp only [Act.put, zs, z0, z1]
 refine sF rfl ?_
 refine wp_call1 rfl rfl (by go_simp) ?_
 refine ((fun w => k_none a w) _).mono ?_
 rintro e wk13 ⟨he13, hk13⟩
 obtain rfl : e = .returned (.bool false) := he13.trans (by rw [nnB_of ga])
 clear he13
 refine ⟨_, rfl, ?_⟩
 have hPN1_13 := (hPN1_12).gr hk13
 have hPN2_13 := (hPN2_12).gr hk13
 have hPN4_13 := (hPN4_12).gr hk13
 have hPN5_13 := (hPN5_12).gr hk13
 have hPN9_13 := (hPN9_12).gr hk13
 have hPN10_13 := (hs12).gr hk13
 have hF_13 := (hF_12).then hk13
 simp only [Act.put, zs, z0, z1]
 refine sF rfl ?_
 refine wM (v := .bool false) rfl rfl ?_
 simp only [Act.put, zs, z0, z1]
 refine s_do (by rfl) ?_
 refine wp_loadB rfl rfl (hPN2_13) ?_
 simp only [Act.put, zs, z0, z1]
 refine s_do (by rfl) ?_
 refine wp_call1 rfl rfl (by go_simp) ?_
 refine ((fun w => k_none b w) _).mono ?_
 rintro e wk14 ⟨he14, hk14⟩
 obtain rfl : e = .returned (.bool false) := he14.trans (by rw [nnB_of gb])
 clear he14
 refine ⟨_, rfl, ?_⟩
 have hPN1_14 := (hPN1_13).gr hk14
 have hPN2_14 := (hPN2_13).gr hk14
 have hPN4_14 := (hPN4_13).gr hk14
 have hPN5_14 := (hPN5_13).gr hk14
 have hPN9_14 := (hPN9_13).gr hk14
 have hPN10_14 := (hPN10_13).gr hk14
 have hF_14 := (hF_13).then hk14
 simp only [Act.put, zs, z0, z1]
 refine sF rfl ?_
 refine wp_pickF (v := .bool false) rfl rfl rfl ?_
 simp only [Act.put, zs, z0, z1]
 refine sF rfl ?_
 refine wA (v := .bool false) rfl rfl ?_
 simp only [Act.put, zs, z0, z1]
 refine s_end ?_
 go_wp2
 go_returns
 exact ⟨rfl, (hF_14).gr0⟩
set_option maxHeartbeats 16000000 in
theorem sure_tf (c : Int) (hc : codeM c) (wd : Bool) (a b : Bd) (ga : Good a) (gb : Good b) (h1 : (refM (tellM c wd true a b)).isSome = true) (h2 : (refM (tellM c wd false a b)).isSome = false) (w : World) : Calls Tryz.prog 30 #[.int .u8 c, .bool wd, .agg (bv a), .agg (bv b)] w fun e w' => e = .returned (.tuple #[.bool true, .bool true, .int .i64 0]) ∧ Gr w w' := by
 go_enter Tryz.func30, Tryz.ntmps30
 go_upto_region 0 with fail
 refine rG ?_
 refine sF rfl ?_
 refine wp_bx_B rfl rfl ?_
 intro ws1 hn1 hg1
 obtain ⟨PN1, hb1⟩ : ∃ b, w.heap.size = b := ⟨_, rfl⟩
 rw [hb1] at hn1 ⊢
 have hge1 := Nat.le_trans (GrL.refl [] w).size (Nat.le_of_eq hb1)
 have hF_1 := (GrL.refl [] w).then hg1
 simp only [Act.put, zs, z0, z1]
 refine sF rfl ?_
 refine wp_bx_B rfl rfl ?_
 intro ws2 hn2 hg2
 obtain ⟨PN2, hb2⟩ : ∃ b, ws1.heap.size = b := ⟨_, rfl⟩
 rw [hb2] at hn2 ⊢
 have hge2 := Nat.le_trans (hF_1).size (Nat.le_of_eq hb2)
 have hnePN1_PN2 : PN1 ≠ PN2 := nl (hn1).lt hb2
 have hPN1_2 := (hn1).gr hg2
 have hF_2 := (hF_1).then hg2
 simp only [Act.put, zs, z0, z1]
 refine sF rfl ?_
 refine wA (v := .bool false) rfl rfl ?_
 simp only [Act.put, zs, z0, z1]
 refine sF rfl ?_
 refine wA (v := .bool false) rfl rfl ?_
 simp only [Act.put, zs, z0, z1]
 refine sF rfl ?_
 refine wA (v := .int .i64 0) rfl rfl ?_
 simp only [Act.put, zs, z0, z1]
 refine s_end ?_
 go_upto_region 1 with fail
 refine rG ?_
 refine sF rfl ?_
 refine wM (v := .int .u8 c) rfl rfl ?_
 simp only [Act.put, zs, z0, z1]
 refine sF rfl ?_
 refine wM (v := .bool wd) rfl rfl ?_
 simp only [Act.put, zs, z0, z1]
 refine sF rfl ?_
 refine wp_loadB rfl rfl (hPN1_2) ?_
 simp only [Act.put, zs, z0, z1]
 refine sF rfl ?_
 refine wp_loadB rfl rfl (hn2) ?_
 simp only [Act.put, zs, z0, z1]
 refine sF rfl ?_
 refine wp_call5 rfl rfl rfl rfl rfl rfl (by go_simp) ?_
 refine ((fun w => k_ref (so := true) hc ga gb w) _).mono ?_
 rintro e wk3 ⟨he3, hk3⟩
 obtain rfl : e = .returned (.tuple #[.agg (bv (rx (refM (tellM c wd true a b)))), .agg (bv (ry (refM (tellM c wd true a b)))), .bool true, .int .i64 0]) := he3.trans (by rw [h1])
 clear he3
 refine ⟨_, rfl, ?_⟩
 have hPN1_3 := (hPN1_2).gr hk3
 have hPN2_3 := (hn2).gr hk3
 have hF_3 := (hF_2).then hk3
 simp only [Act.put, zs, z0, z1]
 refine sF rfl ?_
 refine wM (v := .tuple #[.agg (bv (rx (refM (tellM c wd true a b)))), .agg (bv (ry (refM (tellM c wd true a b)))), .bool true, .int .i64 0]) rfl rfl ?_
 simp only [Act.put, zs, z0, z1]
 refine sF rfl ?_
 refine wp_extract (v := .agg (bv (rx (refM (tellM c wd true a b))))) rfl rfl rfl ?_
 simp only [Act.put, zs, z0, z1]
 refine sF rfl ?_
 refine wp_extract (v := .agg (bv (ry (refM (tellM c wd true a b))))) rfl rfl rfl ?_
 simp only [Act.put, zs, z0, z1]
 refine sF rfl ?_
 refine wp_extract (v := .bool true) rfl rfl rfl ?_
 simp only [Act.put, zs, z0, z1]
 refine sF rfl ?_
 refine wp_extract (v := .int .i64 0) rfl rfl rfl ?_
 simp only [Act.put, zs, z0, z1]
 refine sF rfl ?_
 refine wp_allocB rfl ?_
 intro ws4 hn4 hg4
 obtain ⟨PN4, hb4⟩ : ∃ b, wk3.heap.size = b := ⟨_, rfl⟩
 rw [hb4] at hn4 ⊢
 have hge4 := Nat.le_trans (hF_3).size (Nat.le_of_eq hb4)
 have hnePN1_PN4 : PN1 ≠ PN4 := nl (hPN1_3).lt hb4
 have hnePN2_PN4 : PN2 ≠ PN4 := nl (hPN2_3).lt hb4
 have hPN1_4 := (hPN1_3).gr hg4
 have hPN2_4 := (hPN2_3).gr hg4
 have hF_4 := (hF_3).then hg4
 simp only [Act.put, zs, z0, z1]
 refine sF rfl ?_
 refine wp_allocB rfl ?_
 intro ws5 hn5 hg5
 obtain ⟨PN5, hb5⟩ : ∃ b, ws4.heap.size = b := ⟨_, rfl⟩
 rw [hb5] at hn5 ⊢
 have hge5 := Nat.le_trans (hF_4).size (Nat.le_of_eq hb5)
 have hnePN1_PN5 : PN1 ≠ PN5 := nl (hPN1_4).lt hb5
 have hnePN2_PN5 : PN2 ≠ PN5 := nl (hPN2_4).lt hb5
 have hnePN4_PN5 : PN4 ≠ PN5 := nl (hn4).lt hb5
 have hPN1_5 := (hPN1_4).gr hg5
 have hPN2_5 := (hPN2_4).gr hg5
 have hPN4_5 := (hn4).gr hg5
 have hF_5 := (hF_4).then hg5
 simp only [Act.put, zs, z0, z1]
 refine sF rfl ?_
 refine wp_storeB rfl rfl rfl (hPN4_5) ?_
 intro ws6 hs6 gx6
 have hPN1_6 := (hPN1_5).grx gx6 hnePN1_PN4
 have hPN2_6 := (hPN2_5).grx gx6 hnePN2_PN4
 have hPN5_6 := (hn5).grx gx6 (Ne.symm hnePN4_PN5)
 have hF_6 := (hF_5).thenx gx6 (.inr hge4)
 change AtA ws6 PN4 (bv (rx (refM (tellM c wd true a b)))) 30 at hs6
 simp only [Act.put, zs, z0, z1]
 refine sF rfl ?_
 refine wp_storeB rfl rfl rfl (hPN5_6) ?_
 intro ws7 hs7 gx7
 have hPN1_7 := (hPN1_6).grx gx7 hnePN1_PN5
 have hPN2_7 := (hPN2_6).grx gx7 hnePN2_PN5
 have hPN4_7 := (hs6).grx gx7 hnePN4_PN5
 have hF_7 := (hF_6).thenx gx7 (.inr hge5)
 change AtA ws7 PN5 (bv (ry (refM (tellM c wd true a b)))) 30 at hs7
 simp only [Act.put, zs, z0, z1]
 refine sF rfl ?_
 refine wA (v := .bool true) rfl rfl ?_
 simp only [Act.put, zs, z0, z1]
 refine sF rfl ?_
 refine wA (v := .int .i64 0) rfl rfl ?_
 simp only [Act.put, zs, z0, z1]
 refine s_end ?_
 go_upto_region 2 with fail
 refine rG ?_
 refine sF rfl ?_
 refine wM (v := .int .u8 c) rfl rfl ?_
 simp only [Act.put, zs, z0, z1]
 refine sF rfl ?_
 refine wM (v := .bool wd) rfl rfl ?_
 simp only [Act.put, zs, z0, z1]
 refine sF rfl ?_
 refine wp_loadB rfl rfl (hPN1_7) ?_
 simp only [Act.put, zs, z0, z1]
 refine sF rfl ?_
 refine wp_loadB rfl rfl (hPN2_7) ?_
 simp only [Act.put, zs, z0, z1]
 refine sF rfl ?_
 refine wp_call5 rfl rfl rfl rfl rfl rfl (by go_simp) ?_
 refine ((fun w => k_ref (so := false) hc ga gb w) _).mono ?_
 rintro e wk8 ⟨he8, hk8⟩
 obtain rfl : e = .returned (.tuple #[.agg (bv (rx (refM (tellM c wd false a b)))), .agg (bv (ry (refM (tellM c wd false a b)))), .bool false, .int .i64 0]) := he8.trans (by rw [h2])
 clear he8
 refine ⟨_, rfl, ?_⟩
 have hPN1_8 := (hPN1_7).gr hk8
 have hPN2_8 := (hPN2_7).gr hk8
 have hPN4_8 := (hPN4_7).gr hk8
 have hPN5_8 := (hs7).gr hk8
 have hF_8 := (hF_7).then hk8
 simp only [Act.put, zs, z0, z1]
 refine sF rfl ?_
 refine wM (v := .tuple #[.agg (bv (rx (refM (tellM c wd false a b)))), .agg (bv (ry (refM (tellM c wd false a b)))), .bool false, .int .i64 0]) rfl rfl ?_
 simp only [Act.put, zs, z0, z1]
 refine sF rfl ?_
 refine wp_extract (v := .agg (bv (rx (refM (tellM c wd false a b))))) rfl rfl rfl ?_
 simp only [Act.put, zs, z0, z1]
 refine sF rfl ?_
 refine wp_extract (v := .agg (bv (ry (refM (tellM c wd false a b))))) rfl rfl rfl ?_
 simp only [Act.put, zs, z0, z1]
 refine sF rfl ?_
 refine wp_extract (v := .bool false) rfl rfl rfl ?_
 simp only [Act.put, zs, z0, z1]
 refine sF rfl ?_
 refine wp_extract (v := .int .i64 0) rfl rfl rfl ?_
 simp only [Act.put, zs, z0, z1]
 refine sF rfl ?_
 refine wp_allocB rfl ?_
 intro ws9 hn9 hg9
 obtain ⟨PN9, hb9⟩ : ∃ b, wk8.heap.size = b := ⟨_, rfl⟩
 rw [hb9] at hn9 ⊢
 have hge9 := Nat.le_trans (hF_8).size (Nat.le_of_eq hb9)
 have hnePN1_PN9 : PN1 ≠ PN9 := nl (hPN1_8).lt hb9
 have hnePN2_PN9 : PN2 ≠ PN9 := nl (hPN2_8).lt hb9
 have hnePN4_PN9 : PN4 ≠ PN9 := nl (hPN4_8).lt hb9
 have hnePN5_PN9 : PN5 ≠ PN9 := nl (hPN5_8).lt hb9
 have hPN1_9 := (hPN1_8).gr hg9
 have hPN2_9 := (hPN2_8).gr hg9
 have hPN4_9 := (hPN4_8).gr hg9
 have hPN5_9 := (hPN5_8).gr hg9
 have hF_9 := (hF_8).then hg9
 simp only [Act.put, zs, z0, z1]
 refine sF rfl ?_
 refine wp_allocB rfl ?_
 intro ws10 hn10 hg10
 obtain ⟨PN10, hb10⟩ : ∃ b, ws9.heap.size = b := ⟨_, rfl⟩
 rw [hb10] at hn10 ⊢
 have hge10 := Nat.le_trans (hF_9).size (Nat.le_of_eq hb10)
 have hnePN1_PN10 : PN1 ≠ PN10 := nl (hPN1_9).lt hb10
 have hnePN2_PN10 : PN2 ≠ PN10 := nl (hPN2_9).lt hb10
 have hnePN4_PN10 : PN4 ≠ PN10 := nl (hPN4_9).lt hb10
 have hnePN5_PN10 : PN5 ≠ PN10 := nl (hPN5_9).lt hb10
 have hnePN9_PN10 : PN9 ≠ PN10 := nl (hn9).lt hb10
 have hPN1_10 := (hPN1_9).gr hg10
 have hPN2_10 := (hPN2_9).gr hg10
 have hPN4_10 := (hPN4_9).gr hg10
 have hPN5_10 := (hPN5_9).gr hg10
 have hPN9_10 := (hn9).gr hg10
 have hF_10 := (hF_9).then hg10
 simp only [Act.put, zs, z0, z1]
 refine sF rfl ?_
 refine wp_storeB rfl rfl rfl (hPN9_10) ?_
 intro ws11 hs11 gx11
 have hPN1_11 := (hPN1_10).grx gx11 hnePN1_PN9
 have hPN2_11 := (hPN2_10).grx gx11 hnePN2_PN9
 have hPN4_11 := (hPN4_10).grx gx11 hnePN4_PN9
 have hPN5_11 := (hPN5_10).grx gx11 hnePN5_PN9
 have hPN10_11 := (hn10).grx gx11 (Ne.symm hnePN9_PN10)
 have hF_11 := (hF_10).thenx gx11 (.inr hge9)
 change AtA ws11 PN9 (bv (rx (refM (tellM c wd false a b)))) 30 at hs11
 simp only [Act.put, zs, z0, z1]
 refine sF rfl ?_
 refine wp_storeB rfl rfl rfl (hPN10_11) ?_
 intro ws12 hs12 gx12
 have hPN1_12 := (hPN1_11).grx gx12 hnePN1_PN10
 have hPN2_12 := (hPN2_11).grx gx12 hnePN2_PN10
 have hPN4_12 := (hPN4_11).grx gx12 hnePN4_PN10
 have hPN5_12 := (hPN5_11).grx gx12 hnePN5_PN10
 have hPN9_12 := (hs11).grx gx12 hnePN9_PN10
 have hF_12 := (hF_11).thenx gx12 (.inr hge10)
 change AtA ws12 PN10 (bv (ry (refM (tellM c wd false a b)))) 30 at hs12
 simp only [Act.put, zs, z0, z1]
 refine sF rfl ?_
 refine wA (v := .bool false) rfl rfl ?_
 simp only [Act.put, zs, z0, z1]
 refine sF rfl ?_
 refine wA (v := .int .i64 0) rfl rfl ?_
 simp only [Act.put, zs, z0, z1]
 refine s_end ?_
 go_upto_region 5 with fail
 refine rG ?_
 refine sF rfl ?_
 refine wp_loadB rfl rfl (hPN1_12) ?_
 simp only [Act.put, zs, z0, z1]
 refine sF rfl ?_
 refine wp_call1 rfl rfl (by go_simp) ?_
 refine ((fun w => k_none a w) _).mono ?_
 rintro e wk13 ⟨he13, hk13⟩
 obtain rfl : e = .returned (.bool false) := he13.trans (by rw [nnB_of ga])
 clear he13
 refine ⟨_, rfl, ?_⟩
 have hPN1_13 := (hPN1_12).gr hk13
 have hPN2_13 := (hPN2_12).gr hk13
 have hPN4_13 := (hPN4_12).gr hk13
 have hPN5_13 := (hPN5_12).gr hk13
 have hPN9_13 := (hPN9_12).gr hk13
 have hPN10_13 := (hs12).gr hk13
 have hF_13 := (hF_12).then hk13
 simp only [Act.put, zs, z0, z1]
 refine sF rfl ?_
 refine wM (v := .bool false) rfl rfl ?_
 simp only [Act.put, zs, z0, z1]
 refine s_do (by rfl) ?_
 refine wp_loadB rfl rfl (hPN2_13) ?_
 simp only [Act.put, zs, z0, z1]
 refine s_do (by rfl) ?_
 refine wp_call1 rfl rfl (by go_simp) ?_
 refine ((fun w => k_none b w) _).mono ?_
 rintro e wk14 ⟨he14, hk14⟩
 obtain rfl : e = .returned (.bool false) := he14.trans (by rw [nnB_of gb])
 clear he14
 refine ⟨_, rfl, ?_⟩
 have hPN1_14 := (hPN1_13).gr hk14
 have hPN2_14 := (hPN2_13).gr hk14
 have hPN4_14 := (hPN4_13).gr hk14
 have hPN5_14 := (hPN5_13).gr hk14
 have hPN9_14 := (hPN9_13).gr hk14
 have hPN10_14 := (hPN10_13).gr hk14
 have hF_14 := (hF_13).then hk14
 simp only [Act.put, zs, z0, z1]
 refine sF rfl ?_
 refine wp_pickF (v := .bool false) rfl rfl rfl ?_
 simp only [Act.put, zs, z0, z1]
 refine sF rfl ?_
 refine wA (v := .bool false) rfl rfl ?_
 simp only [Act.put, zs, z0, z1]
 refine s_end ?_
 go_wp2
 go_returns
 exact ⟨rfl, (hF_14).gr0⟩
set_option maxHeartbeats 16000000 in
theorem sure_ft (c : Int) (hc : codeM c) (wd : Bool) (a b : Bd) (ga : Good a) (gb : Good b) (h1 : (refM (tellM c wd true a b)).isSome = false) (h2 : (refM (tellM c wd false a b)).isSome = true) (w : World) : Calls Tryz.prog 30 #[.int .u8 c, .bool wd, .agg (bv a), .agg (bv b)] w fun e w' => e = .returned (.tuple #[.bool false, .bool true, .int .i64 0]) ∧ Gr w w' := by
 go_enter Tryz.func30, Tryz.ntmps30
 go_upto_region 0 with fail
 refine rG ?_
 refine sF rfl ?_
 refine wp_bx_B rfl rfl ?_
 intro ws1 hn1 hg1
 obtain ⟨PN1, hb1⟩ : ∃ b, w.heap.size = b := ⟨_, rfl⟩
 rw [hb1] at hn1 ⊢
 have hge1 := Nat.le_trans (GrL.refl [] w).size (Nat.le_of_eq hb1)
 have hF_1 := (GrL.refl [] w).then hg1
 simp only [Act.put, zs, z0, z1]
 refine sF rfl ?_
 refine wp_bx_B rfl rfl ?_
 intro ws2 hn2 hg2
 obtain ⟨PN2, hb2⟩ : ∃ b, ws1.heap.size = b := ⟨_, rfl⟩
 rw [hb2] at hn2 ⊢
 have hge2 := Nat.le_trans (hF_1).size (Nat.le_of_eq hb2)
 have hnePN1_PN2 : PN1 ≠ PN2 := nl (hn1).lt hb2
 have hPN1_2 := (hn1).gr hg2
 have hF_2 := (hF_1).then hg2
 simp only [Act.put, zs, z0, z1]
 refine sF rfl ?_
 refine wA (v := .bool false) rfl rfl ?_
 simp only [Act.put, zs, z0, z1]
 refine sF rfl ?_
 refine wA (v := .bool false) rfl rfl ?_
 simp only [Act.put, zs, z0, z1]
 refine sF rfl ?_
 refine wA (v := .int .i64 0) rfl rfl ?_
 simp only [Act.put, zs, z0, z1]
 refine s_end ?_
 go_upto_region 1 with fail
 refine rG ?_
 refine sF rfl ?_
 refine wM (v := .int .u8 c) rfl rfl ?_
 simp only [Act.put, zs, z0, z1]
 refine sF rfl ?_
 refine wM (v := .bool wd) rfl rfl ?_
 simp only [Act.put, zs, z0, z1]
 refine sF rfl ?_
 refine wp_loadB rfl rfl (hPN1_2) ?_
 simp only [Act.put, zs, z0, z1]
 refine sF rfl ?_
 refine wp_loadB rfl rfl (hn2) ?_
 simp only [Act.put, zs, z0, z1]
 refine sF rfl ?_
 refine wp_call5 rfl rfl rfl rfl rfl rfl (by go_simp) ?_
 refine ((fun w => k_ref (so := true) hc ga gb w) _).mono ?_
 rintro e wk3 ⟨he3, hk3⟩
 obtain rfl : e = .returned (.tuple #[.agg (bv (rx (refM (tellM c wd true a b)))), .agg (bv (ry (refM (tellM c wd true a b)))), .bool false, .int .i64 0]) := he3.trans (by rw [h1])
 clear he3
 refine ⟨_, rfl, ?_⟩
 have hPN1_3 := (hPN1_2).gr hk3
 have hPN2_3 := (hn2).gr hk3
 have hF_3 := (hF_2).then hk3
 simp only [Act.put, zs, z0, z1]
 refine sF rfl ?_
 refine wM (v := .tuple #[.agg (bv (rx (refM (tellM c wd true a b)))), .agg (bv (ry (refM (tellM c wd true a b)))), .bool false, .int .i64 0]) rfl rfl ?_
 simp only [Act.put, zs, z0, z1]
 refine sF rfl ?_
 refine wp_extract (v := .agg (bv (rx (refM (tellM c wd true a b))))) rfl rfl rfl ?_
 simp only [Act.put, zs, z0, z1]
 refine sF rfl ?_
 refine wp_extract (v := .agg (bv (ry (refM (tellM c wd true a b))))) rfl rfl rfl ?_
 simp only [Act.put, zs, z0, z1]
 refine sF rfl ?_
 refine wp_extract (v := .bool false) rfl rfl rfl ?_
 simp only [Act.put, zs, z0, z1]
 refine sF rfl ?_
 refine wp_extract (v := .int .i64 0) rfl rfl rfl ?_
 simp only [Act.put, zs, z0, z1]
 refine sF rfl ?_
 refine wp_allocB rfl ?_
 intro ws4 hn4 hg4
 obtain ⟨PN4, hb4⟩ : ∃ b, wk3.heap.size = b := ⟨_, rfl⟩
 rw [hb4] at hn4 ⊢
 have hge4 := Nat.le_trans (hF_3).size (Nat.le_of_eq hb4)
 have hnePN1_PN4 : PN1 ≠ PN4 := nl (hPN1_3).lt hb4
 have hnePN2_PN4 : PN2 ≠ PN4 := nl (hPN2_3).lt hb4
 have hPN1_4 := (hPN1_3).gr hg4
 have hPN2_4 := (hPN2_3).gr hg4
 have hF_4 := (hF_3).then hg4
 simp only [Act.put, zs, z0, z1]
 refine sF rfl ?_
 refine wp_allocB rfl ?_
 intro ws5 hn5 hg5
 obtain ⟨PN5, hb5⟩ : ∃ b, ws4.heap.size = b := ⟨_, rfl⟩
 rw [hb5] at hn5 ⊢
 have hge5 := Nat.le_trans (hF_4).size (Nat.le_of_eq hb5)
 have hnePN1_PN5 : PN1 ≠ PN5 := nl (hPN1_4).lt hb5
 have hnePN2_PN5 : PN2 ≠ PN5 := nl (hPN2_4).lt hb5
 have hnePN4_PN5 : PN4 ≠ PN5 := nl (hn4).lt hb5
 have hPN1_5 := (hPN1_4).gr hg5
 have hPN2_5 := (hPN2_4).gr hg5
 have hPN4_5 := (hn4).gr hg5
 have hF_5 := (hF_4).then hg5
 simp only [Act.put, zs, z0, z1]
 refine sF rfl ?_
 refine wp_storeB rfl rfl rfl (hPN4_5) ?_
 intro ws6 hs6 gx6
 have hPN1_6 := (hPN1_5).grx gx6 hnePN1_PN4
 have hPN2_6 := (hPN2_5).grx gx6 hnePN2_PN4
 have hPN5_6 := (hn5).grx gx6 (Ne.symm hnePN4_PN5)
 have hF_6 := (hF_5).thenx gx6 (.inr hge4)
 change AtA ws6 PN4 (bv (rx (refM (tellM c wd true a b)))) 30 at hs6
 simp only [Act.put, zs, z0, z1]
 refine sF rfl ?_
 refine wp_storeB rfl rfl rfl (hPN5_6) ?_
 intro ws7 hs7 gx7
 have hPN1_7 := (hPN1_6).grx gx7 hnePN1_PN5
 have hPN2_7 := (hPN2_6).grx gx7 hnePN2_PN5
 have hPN4_7 := (hs6).grx gx7 hnePN4_PN5
 have hF_7 := (hF_6).thenx gx7 (.inr hge5)
 change AtA ws7 PN5 (bv (ry (refM (tellM c wd true a b)))) 30 at hs7
 simp only [Act.put, zs, z0, z1]
 refine sF rfl ?_
 refine wA (v := .bool false) rfl rfl ?_
 simp only [Act.put, zs, z0, z1]
 refine sF rfl ?_
 refine wA (v := .int .i64 0) rfl rfl ?_
 simp only [Act.put, zs, z0, z1]
 refine s_end ?_
 go_upto_region 2 with fail
 refine rG ?_
 refine sF rfl ?_
 refine wM (v := .int .u8 c) rfl rfl ?_
 simp only [Act.put, zs, z0, z1]
 refine sF rfl ?_
 refine wM (v := .bool wd) rfl rfl ?_
 simp only [Act.put, zs, z0, z1]
 refine sF rfl ?_
 refine wp_loadB rfl rfl (hPN1_7) ?_
 simp only [Act.put, zs, z0, z1]
 refine sF rfl ?_
 refine wp_loadB rfl rfl (hPN2_7) ?_
 simp only [Act.put, zs, z0, z1]
 refine sF rfl ?_
 refine wp_call5 rfl rfl rfl rfl rfl rfl (by go_simp) ?_
 refine ((fun w => k_ref (so := false) hc ga gb w) _).mono ?_
 rintro e wk8 ⟨he8, hk8⟩
 obtain rfl : e = .returned (.tuple #[.agg (bv (rx (refM (tellM c wd false a b)))), .agg (bv (ry (refM (tellM c wd false a b)))), .bool true, .int .i64 0]) := he8.trans (by rw [h2])
 clear he8
 refine ⟨_, rfl, ?_⟩
 have hPN1_8 := (hPN1_7).gr hk8
 have hPN2_8 := (hPN2_7).gr hk8
 have hPN4_8 := (hPN4_7).gr hk8
 have hPN5_8 := (hs7).gr hk8
 have hF_8 := (hF_7).then hk8
 simp only [Act.put, zs, z0, z1]
 refine sF rfl ?_
 refine wM (v := .tuple #[.agg (bv (rx (refM (tellM c wd false a b)))), .agg (bv (ry (refM (tellM c wd false a b)))), .bool true, .int .i64 0]) rfl rfl ?_
 simp only [Act.put, zs, z0, z1]
 refine sF rfl ?_
 refine wp_extract (v := .agg (bv (rx (refM (tellM c wd false a b))))) rfl rfl rfl ?_
 simp only [Act.put, zs, z0, z1]
 refine sF rfl ?_
 refine wp_extract (v := .agg (bv (ry (refM (tellM c wd false a b))))) rfl rfl rfl ?_
 simp only [Act.put, zs, z0, z1]
 refine sF rfl ?_
 refine wp_extract (v := .bool true) rfl rfl rfl ?_
 simp only [Act.put, zs, z0, z1]
 refine sF rfl ?_
 refine wp_extract (v := .int .i64 0) rfl rfl rfl ?_
 simp only [Act.put, zs, z0, z1]
 refine sF rfl ?_
 refine wp_allocB rfl ?_
 intro ws9 hn9 hg9
 obtain ⟨PN9, hb9⟩ : ∃ b, wk8.heap.size = b := ⟨_, rfl⟩
 rw [hb9] at hn9 ⊢
 have hge9 := Nat.le_trans (hF_8).size (Nat.le_of_eq hb9)
 have hnePN1_PN9 : PN1 ≠ PN9 := nl (hPN1_8).lt hb9
 have hnePN2_PN9 : PN2 ≠ PN9 := nl (hPN2_8).lt hb9
 have hnePN4_PN9 : PN4 ≠ PN9 := nl (hPN4_8).lt hb9
 have hnePN5_PN9 : PN5 ≠ PN9 := nl (hPN5_8).lt hb9
 have hPN1_9 := (hPN1_8).gr hg9
 have hPN2_9 := (hPN2_8).gr hg9
 have hPN4_9 := (hPN4_8).gr hg9
 have hPN5_9 := (hPN5_8).gr hg9
 have hF_9 := (hF_8).then hg9
 simp only [Act.put, zs, z0, z1]
 refine sF rfl ?_
 refine wp_allocB rfl ?_
 intro ws10 hn10 hg10
 obtain ⟨PN10, hb10⟩ : ∃ b, ws9.heap.size = b := ⟨_, rfl⟩
 rw [hb10] at hn10 ⊢
 have hge10 := Nat.le_trans (hF_9).size (Nat.le_of_eq hb10)
 have hnePN1_PN10 : PN1 ≠ PN10 := nl (hPN1_9).lt hb10
 have hnePN2_PN10 : PN2 ≠ PN10 := nl (hPN2_9).lt hb10
 have hnePN4_PN10 : PN4 ≠ PN10 := nl (hPN4_9).lt hb10
 have hnePN5_PN10 : PN5 ≠ PN10 := nl (hPN5_9).lt hb10
 have hnePN9_PN10 : PN9 ≠ PN10 := nl (hn9).lt hb10
 have hPN1_10 := (hPN1_9).gr hg10
 have hPN2_10 := (hPN2_9).gr hg10
 have hPN4_10 := (hPN4_9).gr hg10
 have hPN5_10 := (hPN5_9).gr hg10
 have hPN9_10 := (hn9).gr hg10
 have hF_10 := (hF_9).then hg10
 simp only [Act.put, zs, z0, z1]
 refine sF rfl ?_
 refine wp_storeB rfl rfl rfl (hPN9_10) ?_
 intro ws11 hs11 gx11
 have hPN1_11 := (hPN1_10).grx gx11 hnePN1_PN9
 have hPN2_11 := (hPN2_10).grx gx11 hnePN2_PN9
 have hPN4_11 := (hPN4_10).grx gx11 hnePN4_PN9
 have hPN5_11 := (hPN5_10).grx gx11 hnePN5_PN9
 have hPN10_11 := (hn10).grx gx11 (Ne.symm hnePN9_PN10)
 have hF_11 := (hF_10).thenx gx11 (.inr hge9)
 change AtA ws11 PN9 (bv (rx (refM (tellM c wd false a b)))) 30 at hs11
 simp only [Act.put, zs, z0, z1]
 refine sF rfl ?_
 refine wp_storeB rfl rfl rfl (hPN10_11) ?_
 intro ws12 hs12 gx12
 have hPN1_12 := (hPN1_11).grx gx12 hnePN1_PN10
 have hPN2_12 := (hPN2_11).grx gx12 hnePN2_PN10
 have hPN4_12 := (hPN4_11).grx gx12 hnePN4_PN10
 have hPN5_12 := (hPN5_11).grx gx12 hnePN5_PN10
 have hPN9_12 := (hs11).grx gx12 hnePN9_PN10
 have hF_12 := (hF_11).thenx gx12 (.inr hge10)
 change AtA ws12 PN10 (bv (ry (refM (tellM c wd false a b)))) 30 at hs12
 simp only [Act.put, zs, z0, z1]
 refine sF rfl ?_
 refine wA (v := .bool true) rfl rfl ?_
 simp only [Act.put, zs, z0, z1]
 refine sF rfl ?_
 refine wA (v := .int .i64 0) rfl rfl ?_
 simp only [Act.put, zs, z0, z1]
 refine s_end ?_
 go_upto_region 5 with fail
 refine rG ?_
 refine sF rfl ?_
 refine wp_loadB rfl rfl (hPN1_12) ?_
 simp only [Act.put, zs, z0, z1]
 refine sF rfl ?_
 refine wp_call1 rfl rfl (by go_simp) ?_
 refine ((fun w => k_none a w) _).mono ?_
 rintro e wk13 ⟨he13, hk13⟩
 obtain rfl : e = .returned (.bool false) := he13.trans (by rw [nnB_of ga])
 clear he13
 refine ⟨_, rfl, ?_⟩
 have hPN1_13 := (hPN1_12).gr hk13
 have hPN2_13 := (hPN2_12).gr hk13
 have hPN4_13 := (hPN4_12).gr hk13
 have hPN5_13 := (hPN5_12).gr hk13
 have hPN9_13 := (hPN9_12).gr hk13
 have hPN10_13 := (hs12).gr hk13
 have hF_13 := (hF_12).then hk13
 simp only [Act.put, zs, z0, z1]
 refine sF rfl ?_
 refine wM (v := .bool false) rfl rfl ?_
 simp only [Act.put, zs, z0, z1]
 refine s_do (by rfl) ?_
 refine wp_loadB rfl rfl (hPN2_13) ?_
 simp only [Act.put, zs, z0, z1]
 refine s_do (by rfl) ?_
 refine wp_call1 rfl rfl (by go_simp) ?_
 refine ((fun w => k_none b w) _).mono ?_
 rintro e wk14 ⟨he14, hk14⟩
 obtain rfl : e = .returned (.bool false) := he14.trans (by rw [nnB_of gb])
 clear he14
 refine ⟨_, rfl, ?_⟩
 have hPN1_14 := (hPN1_13).gr hk14
 have hPN2_14 := (hPN2_13).gr hk14
 have hPN4_14 := (hPN4_13).gr hk14
 have hPN5_14 := (hPN5_13).gr hk14
 have hPN9_14 := (hPN9_13).gr hk14
 have hPN10_14 := (hPN10_13).gr hk14
 have hF_14 := (hF_13).then hk14
 simp only [Act.put, zs, z0, z1]
 refine sF rfl ?_
 refine wp_pickF (v := .bool false) rfl rfl rfl ?_
 simp only [Act.put, zs, z0, z1]
 refine sF rfl ?_
 refine wA (v := .bool false) rfl rfl ?_
 simp only [Act.put, zs, z0, z1]
 refine s_end ?_
 go_wp2
 go_returns
 exact ⟨rfl, (hF_14).gr0⟩
set_option maxHeartbeats 16000000 in
theorem sure_ff (c : Int) (hc : codeM c) (wd : Bool) (a b : Bd) (ga : Good a) (gb : Good b) (h1 : (refM (tellM c wd true a b)).isSome = false) (h2 : (refM (tellM c wd false a b)).isSome = false) (w : World) : Calls Tryz.prog 30 #[.int .u8 c, .bool wd, .agg (bv a), .agg (bv b)] w fun e w' => e = .returned (.tuple #[.bool true, .bool true, .int .i64 0]) ∧ Gr w w' := by
 go_enter Tryz.func30, Tryz.ntmps30
 go_upto_region 0 with fail
 refine rG ?_
 refine sF rfl ?_
 refine wp_bx_B rfl rfl ?_
 intro ws1 hn1 hg1
 obtain ⟨PN1, hb1⟩ : ∃ b, w.heap.size = b := ⟨_, rfl⟩
 rw [hb1] at hn1 ⊢
 have hge1 := Nat.le_trans (GrL.refl [] w).size (Nat.le_of_eq hb1)
 have hF_1 := (GrL.refl [] w).then hg1
 simp only [Act.put, zs, z0, z1]
 refine sF rfl ?_
 refine wp_bx_B rfl rfl ?_
 intro ws2 hn2 hg2
 obtain ⟨PN2, hb2⟩ : ∃ b, ws1.heap.size = b := ⟨_, rfl⟩
 rw [hb2] at hn2 ⊢
 have hge2 := Nat.le_trans (hF_1).size (Nat.le_of_eq hb2)
 have hnePN1_PN2 : PN1 ≠ PN2 := nl (hn1).lt hb2
 have hPN1_2 := (hn1).gr hg2
 have hF_2 := (hF_1).then hg2
 simp only [Act.put, zs, z0, z1]
 refine sF rfl ?_
 refine wA (v := .bool false) rfl rfl ?_
 simp only [Act.put, zs, z0, z1]
 refine sF rfl ?_
 refine wA (v := .bool false) rfl rfl ?_
 simp only [Act.put, zs, z0, z1]
 refine sF rfl ?_
 refine wA (v := .int .i64 0) rfl rfl ?_
 simp only [Act.put, zs, z0, z1]
 refine s_end ?_
 go_upto_region 1 with fail
 refine rG ?_
 refine sF rfl ?_
 refine wM (v := .int .u8 c) rfl rfl ?_
 simp only [Act.put, zs, z0, z1]
 refine sF rfl ?_
 refine wM (v := .bool wd) rfl rfl ?_
 simp only [Act.put, zs, z0, z1]
 refine sF rfl ?_
 refine wp_loadB rfl rfl (hPN1_2) ?_
 simp only [Act.put, zs, z0, z1]
 refine sF rfl ?_
 refine wp_loadB rfl rfl (hn2) ?_
 simp only [Act.put, zs, z0, z1]
 refine sF rfl ?_
 refine wp_call5 rfl rfl rfl rfl rfl rfl (by go_simp) ?_
 refine ((fun w => k_ref (so := true) hc ga gb w) _).mono ?_
 rintro e wk3 ⟨he3, hk3⟩
 obtain rfl : e = .returned (.tuple #[.agg (bv (rx (refM (tellM c wd true a b)))), .agg (bv (ry (refM (tellM c wd true a b)))), .bool false, .int .i64 0]) := he3.trans (by rw [h1])
 clear he3
 refine ⟨_, rfl, ?_⟩
 have hPN1_3 := (hPN1_2).gr hk3
 have hPN2_3 := (hn2).gr hk3
 have hF_3 := (hF_2).then hk3
 simp only [Act.put, zs, z0, z1]
 refine sF rfl ?_
 refine wM (v := .tuple #[.agg (bv (rx (refM (tellM c wd true a b)))), .agg (bv (ry (refM (tellM c wd true a b)))), .bool false, .int .i64 0]) rfl rfl ?_
 simp only [Act.put, zs, z0, z1]
 refine sF rfl ?_
 refine wp_extract (v := .agg (bv (rx (refM (tellM c wd true a b))))) rfl rfl rfl ?_
 simp only [Act.put, zs, z0, z1]
 refine sF rfl ?_
 refine wp_extract (v := .agg (bv (ry (refM (tellM c wd true a b))))) rfl rfl rfl ?_
 simp only [Act.put, zs, z0, z1]
 refine sF rfl ?_
 refine wp_extract (v := .bool false) rfl rfl rfl ?_
 simp only [Act.put, zs, z0, z1]
 refine sF rfl ?_
 refine wp_extract (v := .int .i64 0) rfl rfl rfl ?_
 simp only [Act.put, zs, z0, z1]
 refine sF rfl ?_
 refine wp_allocB rfl ?_
 intro ws4 hn4 hg4
 obtain ⟨PN4, hb4⟩ : ∃ b, wk3.heap.size = b := ⟨_, rfl⟩
 rw [hb4] at hn4 ⊢
 have hge4 := Nat.le_trans (hF_3).size (Nat.le_of_eq hb4)
 have hnePN1_PN4 : PN1 ≠ PN4 := nl (hPN1_3).lt hb4
 have hnePN2_PN4 : PN2 ≠ PN4 := nl (hPN2_3).lt hb4
 have hPN1_4 := (hPN1_3).gr hg4
 have hPN2_4 := (hPN2_3).gr hg4
 have hF_4 := (hF_3).then hg4
 simp only [Act.put, zs, z0, z1]
 refine sF rfl ?_
 refine wp_allocB rfl ?_
 intro ws5 hn5 hg5
 obtain ⟨PN5, hb5⟩ : ∃ b, ws4.heap.size = b := ⟨_, rfl⟩
 rw [hb5] at hn5 ⊢
 have hge5 := Nat.le_trans (hF_4).size (Nat.le_of_eq hb5)
 have hnePN1_PN5 : PN1 ≠ PN5 := nl (hPN1_4).lt hb5
 have hnePN2_PN5 : PN2 ≠ PN5 := nl (hPN2_4).lt hb5
 have hnePN4_PN5 : PN4 ≠ PN5 := nl (hn4).lt hb5
 have hPN1_5 := (hPN1_4).gr hg5
 have hPN2_5 := (hPN2_4).gr hg5
 have hPN4_5 := (hn4).gr hg5
 have hF_5 := (hF_4).then hg5
 simp only [Act.put, zs, z0, z1]
 refine sF rfl ?_
 refine wp_storeB rfl rfl rfl (hPN4_5) ?_
 intro ws6 hs6 gx6
 have hPN1_6 := (hPN1_5).grx gx6 hnePN1_PN4
 have hPN2_6 := (hPN2_5).grx gx6 hnePN2_PN4
 have hPN5_6 := (hn5).grx gx6 (Ne.symm hnePN4_PN5)
 have hF_6 := (hF_5).thenx gx6 (.inr hge4)
 change AtA ws6 PN4 (bv (rx (refM (tellM c wd true a b)))) 30 at hs6
 simp only [Act.put, zs, z0, z1]
 refine sF rfl ?_
 refine wp_storeB rfl rfl rfl (hPN5_6) ?_
 intro ws7 hs7 gx7
 have hPN1_7 := (hPN1_6).grx gx7 hnePN1_PN5
 have hPN2_7 := (hPN2_6).grx gx7 hnePN2_PN5
 have hPN4_7 := (hs6).grx gx7 hnePN4_PN5
 have hF_7 := (hF_6).thenx gx7 (.inr hge5)
 change AtA ws7 PN5 (bv (ry (refM (tellM c wd true a b)))) 30 at hs7
 simp only [Act.put, zs, z0, z1]
 refine sF rfl ?_
 refine wA (v := .bool false) rfl rfl ?_
 simp only [Act.put, zs, z0, z1]
 refine sF rfl ?_
 refine wA (v := .int .i64 0) rfl rfl ?_
 simp only [Act.put, zs, z0, z1]
 refine s_end ?_
 go_upto_region 2 with fail
 refine rG ?_
 refine sF rfl ?_
 refine wM (v := .int .u8 c) rfl rfl ?_
 simp only [Act.put, zs, z0, z1]
 refine sF rfl ?_
 refine wM (v := .bool wd) rfl rfl ?_
 simp only [Act.put, zs, z0, z1]
 refine sF rfl ?_
 refine wp_loadB rfl rfl (hPN1_7) ?_
 simp only [Act.put, zs, z0, z1]
 refine sF rfl ?_
 refine wp_loadB rfl rfl (hPN2_7) ?_
 simp only [Act.put, zs, z0, z1]
 refine sF rfl ?_
 refine wp_call5 rfl rfl rfl rfl rfl rfl (by go_simp) ?_
 refine ((fun w => k_ref (so := false) hc ga gb w) _).mono ?_
 rintro e wk8 ⟨he8, hk8⟩
 obtain rfl : e = .returned (.tuple #[.agg (bv (rx (refM (tellM c wd false a b)))), .agg (bv (ry (refM (tellM c wd false a b)))), .bool false, .int .i64 0]) := he8.trans (by rw [h2])
 clear he8
 refine ⟨_, rfl, ?_⟩
 have hPN1_8 := (hPN1_7).gr hk8
 have hPN2_8 := (hPN2_7).gr hk8
 have hPN4_8 := (hPN4_7).gr hk8
 have hPN5_8 := (hs7).gr hk8
 have hF_8 := (hF_7).then hk8
 simp only [Act.put, zs, z0, z1]
 refine sF rfl ?_
 refine wM (v := .tuple #[.agg (bv (rx (refM (tellM c wd false a b)))), .agg (bv (ry (refM (tellM c wd false a b)))), .bool false, .int .i64 0]) rfl rfl ?_
 simp only [Act.put, zs, z0, z1]
 refine sF rfl ?_
 refine wp_extract (v := .agg (bv (rx (refM (tellM c wd false a b))))) rfl rfl rfl ?_
 simp only [Act.put, zs, z0, z1]
 refine sF rfl ?_
 refine wp_extract (v := .agg (bv (ry (refM (tellM c wd false a b))))) rfl rfl rfl ?_
 simp only [Act.put, zs, z0, z1]
 refine sF rfl ?_
 refine wp_extract (v := .bool false) rfl rfl rfl ?_
 simp only [Act.put, zs, z0, z1]
 refine sF rfl ?_
 refine wp_extract (v := .int .i64 0) rfl rfl rfl ?_
 simp only [Act.put, zs, z0, z1]
 refine sF rfl ?_
 refine wp_allocB rfl ?_
 intro ws9 hn9 hg9
 obtain ⟨PN9, hb9⟩ : ∃ b, wk8.heap.size = b := ⟨_, rfl⟩
 rw [hb9] at hn9 ⊢
 have hge9 := Nat.le_trans (hF_8).size (Nat.le_of_eq hb9)
 have hnePN1_PN9 : PN1 ≠ PN9 := nl (hPN1_8).lt hb9
 have hnePN2_PN9 : PN2 ≠ PN9 := nl (hPN2_8).lt hb9
 have hnePN4_PN9 : PN4 ≠ PN9 := nl (hPN4_8).lt hb9
 have hnePN5_PN9 : PN5 ≠ PN9 := nl (hPN5_8).lt hb9
 have hPN1_9 := (hPN1_8).gr hg9
 have hPN2_9 := (hPN2_8).gr hg9
 have hPN4_9 := (hPN4_8).gr hg9
 have hPN5_9 := (hPN5_8).gr hg9
 have hF_9 := (hF_8).then hg9
 simp only [Act.put, zs, z0, z1]
 refine sF rfl ?_
 refine wp_allocB rfl ?_
 intro ws10 hn10 hg10
 obtain ⟨PN10, hb10⟩ : ∃ b, ws9.heap.size = b := ⟨_, rfl⟩
 rw [hb10] at hn10 ⊢
 have hge10 := Nat.le_trans (hF_9).size (Nat.le_of_eq hb10)
 have hnePN1_PN10 : PN1 ≠ PN10 := nl (hPN1_9).lt hb10
 have hnePN2_PN10 : PN2 ≠ PN10 := nl (hPN2_9).lt hb10
 have hnePN4_PN10 : PN4 ≠ PN10 := nl (hPN4_9).lt hb10
 have hnePN5_PN10 : PN5 ≠ PN10 := nl (hPN5_9).lt hb10
 have hnePN9_PN10 : PN9 ≠ PN10 := nl (hn9).lt hb10
 have hPN1_10 := (hPN1_9).gr hg10
 have hPN2_10 := (hPN2_9).gr hg10
 have hPN4_10 := (hPN4_9).gr hg10
 have hPN5_10 := (hPN5_9).gr hg10
 have hPN9_10 := (hn9).gr hg10
 have hF_10 := (hF_9).then hg10
 simp only [Act.put, zs, z0, z1]
 refine sF rfl ?_
 refine wp_storeB rfl rfl rfl (hPN9_10) ?_
 intro ws11 hs11 gx11
 have hPN1_11 := (hPN1_10).grx gx11 hnePN1_PN9
 have hPN2_11 := (hPN2_10).grx gx11 hnePN2_PN9
 have hPN4_11 := (hPN4_10).grx gx11 hnePN4_PN9
 have hPN5_11 := (hPN5_10).grx gx11 hnePN5_PN9
 have hPN10_11 := (hn10).grx gx11 (Ne.symm hnePN9_PN10)
 have hF_11 := (hF_10).thenx gx11 (.inr hge9)
 change AtA ws11 PN9 (bv (rx (refM (tellM c wd false a b)))) 30 at hs11
 simp only [Act.put, zs, z0, z1]
 refine sF rfl ?_
 refine wp_storeB rfl rfl rfl (hPN10_11) ?_
 intro ws12 hs12 gx12
 have hPN1_12 := (hPN1_11).grx gx12 hnePN1_PN10
 have hPN2_12 := (hPN2_11).grx gx12 hnePN2_PN10
 have hPN4_12 := (hPN4_11).grx gx12 hnePN4_PN10
 have hPN5_12 := (hPN5_11).grx gx12 hnePN5_PN10
 have hPN9_12 := (hs11).grx gx12 hnePN9_PN10
 have hF_12 := (hF_11).thenx gx12 (.inr hge10)
 change AtA ws12 PN10 (bv (ry (refM (tellM c wd false a b)))) 30 at hs12
 simp only [Act.put, zs, z0, z1]
 refine sF rfl ?_
 refine wA (v := .bool false) rfl rfl ?_
 simp only [Act.put, zs, z0, z1]
 refine sF rfl ?_
 refine wA (v := .int .i64 0) rfl rfl ?_
 simp only [Act.put, zs, z0, z1]
 refine s_end ?_
 go_upto_region 5 with fail
 refine rG ?_
 refine sF rfl ?_
 refine wp_loadB rfl rfl (hPN1_12) ?_
 simp only [Act.put, zs, z0, z1]
 refine sF rfl ?_
 refine wp_call1 rfl rfl (by go_simp) ?_
 refine ((fun w => k_none a w) _).mono ?_
 rintro e wk13 ⟨he13, hk13⟩
 obtain rfl : e = .returned (.bool false) := he13.trans (by rw [nnB_of ga])
 clear he13
 refine ⟨_, rfl, ?_⟩
 have hPN1_13 := (hPN1_12).gr hk13
 have hPN2_13 := (hPN2_12).gr hk13
 have hPN4_13 := (hPN4_12).gr hk13
 have hPN5_13 := (hPN5_12).gr hk13
 have hPN9_13 := (hPN9_12).gr hk13
 have hPN10_13 := (hs12).gr hk13
 have hF_13 := (hF_12).then hk13
 simp only [Act.put, zs, z0, z1]
 refine sF rfl ?_
 refine wM (v := .bool false) rfl rfl ?_
 simp only [Act.put, zs, z0, z1]
 refine s_do (by rfl) ?_
 refine wp_loadB rfl rfl (hPN2_13) ?_
 simp only [Act.put, zs, z0, z1]
 refine s_do (by rfl) ?_
 refine wp_call1 rfl rfl (by go_simp) ?_
 refine ((fun w => k_none b w) _).mono ?_
 rintro e wk14 ⟨he14, hk14⟩
 obtain rfl : e = .returned (.bool false) := he14.trans (by rw [nnB_of gb])
 clear he14
 refine ⟨_, rfl, ?_⟩
 have hPN1_14 := (hPN1_13).gr hk14
 have hPN2_14 := (hPN2_13).gr hk14
 have hPN4_14 := (hPN4_13).gr hk14
 have hPN5_14 := (hPN5_13).gr hk14
 have hPN9_14 := (hPN9_13).gr hk14
 have hPN10_14 := (hPN10_13).gr hk14
 have hF_14 := (hF_13).then hk14
 simp only [Act.put, zs, z0, z1]
 refine sF rfl ?_
 refine wp_pickF (v := .bool false) rfl rfl rfl ?_
 simp only [Act.put, zs, z0, z1]
 refine sF rfl ?_
 refine wA (v := .bool false) rfl rfl ?_
 simp only [Act.put, zs, z0, z1]
 refine s_end ?_
 go_wp2
 go_returns
 exact ⟨rfl, (hF_14).gr0⟩
theorem k_sure (c : Int) (hc : codeM c) (wd : Bool) (a b : Bd) (ga : Good a) (gb : Good b) (w : World) : Calls Tryz.prog 30 #[.int .u8 c, .bool wd, .agg (bv a), .agg (bv b)] w fun e w' => e = .returned (.tuple #[.bool (!(refM (tellM c wd false a b)).isSome), .bool (!(refM (tellM c wd false a b)).isSome || !(refM (tellM c wd true a b)).isSome), .int .i64 0]) ∧ Gr w w' := by
 cases h1 : (refM (tellM c wd true a b)).isSome <;> cases h2 : (refM (tellM c wd false a b)).isSome
 ·exact sure_ff c hc wd a b ga gb h1 h2 w
 ·exact sure_ft c hc wd a b ga gb h1 h2 w
 ·exact sure_tf c hc wd a b ga gb h1 h2 w
 ·exact sure_tt c hc wd a b ga gb h1 h2 w
end Go.Proofs.YtcbcijibgpaipaaGreat
