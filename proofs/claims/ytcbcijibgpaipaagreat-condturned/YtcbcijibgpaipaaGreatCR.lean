/- Towards the statements of package cond (layer 6): Refine. -/
import Derived.Test.YtcbcijibgpaipaaGreatCH
import Derived.Deep.DeepCutAuto
namespace Go.Proofs.YtcbcijibgpaipaaGreat
open Go.ChangeShapes Go.WideShapes Go.ChangeAt Go.RowKit
open Tn (iv)
set_option linter.unusedVariables false
set_option linter.unusedSimpArgs false
set_option maxRecDepth 20000

theorem k_sync2 (a : Bd) (r : Rng a) (w : World) : Calls Tryz.prog 11 #[.agg (bv a)] w fun e w' => e = .returned (.agg (bv (syncM a))) ∧ Gr w w' := sync_any a r.ul r.uh r.sl r.sh w
set_option maxHeartbeats 16000000 in
theorem ref_n (T : Bd → Bd → Option (Bd × Bd)) (c : Int) (wd so : Bool) (a b : Bd) (ga : Good a) (gb : Good b) (ct : ∀ w, Calls Tryz.prog 81 #[.int .u8 c, .bool wd, .bool so] w fun e w' => ∃ v, e = .returned v ∧ TellV v w w' T ∧ Gr w w') (hTT : T a b = none) (w : World) : Calls Tryz.prog 29 #[.int .u8 c, .bool wd, .bool so, .agg (bv a), .agg (bv b)] w fun e w' => e = .returned (.tuple #[.agg (bv nothingM), .agg (bv nothingM), .bool false, .int .i64 0]) ∧ Gr w w' := by
 go_enter Tryz.func29, Tryz.ntmps29
 go_upto_region 0 with fail
 refine rG ?_
 refine sF rfl ?_
 refine wp_bx_B rfl rfl ?_
 intro ws1 hn1 hg1
 obtain ⟨PN1, hb1⟩ : ∃ b, w.heap.size = b := ⟨_, rfl⟩
 rw [hb1] at hn1 ⊢
 have hge1 := Nat.le_trans (GrL.refl [] w).size (Nat.le_of_eq hb1)
 have hF_1 := (GrL.refl [] w).then hg1
 simp only [Act.put, zs, z0, z1]
 refine sF rfl ?_
 refine wp_bx_B rfl rfl ?_
 intro ws2 hn2 hg2
 obtain ⟨PN2, hb2⟩ : ∃ b, ws1.heap.size = b := ⟨_, rfl⟩
 rw [hb2] at hn2 ⊢
 have hge2 := Nat.le_trans (hF_1).size (Nat.le_of_eq hb2)
 have hnePN1_PN2 : PN1 ≠ PN2 := nl (hn1).lt hb2
 have hPN1_2 := (hn1).gr hg2
 have hF_2 := (hF_1).then hg2
 simp only [Act.put, zs, z0, z1]
 refine sF rfl ?_
 refine wp_allocB rfl ?_
 intro ws3 hn3 hg3
 obtain ⟨PN3, hb3⟩ : ∃ b, ws2.heap.size = b := ⟨_, rfl⟩
 rw [hb3] at hn3 ⊢
 have hge3 := Nat.le_trans (hF_2).size (Nat.le_of_eq hb3)
 have hnePN1_PN3 : PN1 ≠ PN3 := nl (hPN1_2).lt hb3
 have hnePN2_PN3 : PN2 ≠ PN3 := nl (hn2).lt hb3
 have hPN1_3 := (hPN1_2).gr hg3
 have hPN2_3 := (hn2).gr hg3
 have hF_3 := (hF_2).then hg3
 simp only [Act.put, zs, z0, z1]
 refine sF rfl ?_
 refine wp_allocB rfl ?_
 intro ws4 hn4 hg4
 obtain ⟨PN4, hb4⟩ : ∃ b, ws3.heap.size = b := ⟨_, rfl⟩
 rw [hb4] at hn4 ⊢
 have hge4 := Nat.le_trans (hF_3).size (Nat.le_of_eq hb4)
 have hnePN1_PN4 : PN1 ≠ PN4 := nl (hPN1_3).lt hb4
 have hnePN2_PN4 : PN2 ≠ PN4 := nl (hPN2_3).lt hb4
 have hnePN3_PN4 : PN3 ≠ PN4 := nl (hn3).lt hb4
 have hPN1_4 := (hPN1_3).gr hg4
 have hPN2_4 := (hPN2_3).gr hg4
 have hPN3_4 := (hn3).gr hg4
 have hF_4 := (hF_3).then hg4
 simp only [Act.put, zs, z0, z1]
 refine sF rfl ?_
 refine wA (v := .bool false) rfl rfl ?_
 simp only [Act.put, zs, z0, z1]
 refine sF rfl ?_
 refine wA (v := .int .i64 0) rfl rfl ?_
 simp only [Act.put, zs, z0, z1]
 refine s_end ?_
 go_upto_region 1 with fail
 refine rG ?_
 refine sF rfl ?_
 refine wM (v := .int .u8 c) rfl rfl ?_
 simp only [Act.put, zs, z0, z1]
 refine sF rfl ?_
 refine wM (v := .bool wd) rfl rfl ?_
 simp only [Act.put, zs, z0, z1]
 refine sF rfl ?_
 refine wM (v := .bool so) rfl rfl ?_
 simp only [Act.put, zs, z0, z1]
 refine sF rfl ?_
 refine wp_call3 rfl rfl rfl rfl (by go_simp) ?_
 refine (ct _).mono ?_
 rintro e wk5 ⟨v, rfl, ⟨k, cs, rfl, hf, hT⟩, hk5⟩
 refine ⟨_, rfl, ?_⟩
 have hPN1_5 := (hPN1_4).gr hk5
 have hPN2_5 := (hPN2_4).gr hk5
 have hPN3_5 := (hPN3_4).gr hk5
 have hPN4_5 := (hn4).gr hk5
 have hF_5 := (hF_4).then hk5
 simp only [Act.put, zs, z0, z1]
 refine sF rfl ?_
 refine wA (v := .func (.func k) #[] cs) rfl rfl ?_
 simp only [Act.put, zs, z0, z1]
 refine s_end ?_
 go_upto_region 2 with fail
 refine rG ?_
 refine sF rfl ?_
 refine wM (v := .func (.func k) #[] cs) rfl rfl ?_
 simp only [Act.put, zs, z0, z1]
 refine sF rfl ?_
 refine wp_fnil rfl rfl ?_
 simp only [Act.put, zs, z0, z1]
 refine s_end ?_
 go_upto_region 4 with fail
 refine rG ?_
 refine sF rfl ?_
 refine wp_loadB rfl rfl (hPN1_5) ?_
 simp only [Act.put, zs, z0, z1]
 refine sF rfl ?_
 refine wp_call1 rfl rfl (by go_simp) ?_
 refine ((fun w => k_empty a ga w) _).mono ?_
 rintro e wk6 ⟨rfl, hk6⟩
 refine ⟨_, rfl, ?_⟩
 have hPN1_6 := (hPN1_5).gr hk6
 have hPN2_6 := (hPN2_5).gr hk6
 have hPN3_6 := (hPN3_5).gr hk6
 have hPN4_6 := (hPN4_5).gr hk6
 have hF_6 := (hF_5).then hk6
 simp only [Act.put, zs, z0, z1]
 refine sF rfl ?_
 refine wM (v := .bool false) rfl rfl ?_
 simp only [Act.put, zs, z0, z1]
 refine s_do (by rfl) ?_
 refine wp_loadB rfl rfl (hPN2_6) ?_
 simp only [Act.put, zs, z0, z1]
 refine s_do (by rfl) ?_
 refine wp_call1 rfl rfl (by go_simp) ?_
 refine ((fun w => k_empty b gb w) _).mono ?_
 rintro e wk7 ⟨rfl, hk7⟩
 refine ⟨_, rfl, ?_⟩
 have hPN1_7 := (hPN1_6).gr hk7
 have hPN2_7 := (hPN2_6).gr hk7
 have hPN3_7 := (hPN3_6).gr hk7
 have hPN4_7 := (hPN4_6).gr hk7
 have hF_7 := (hF_6).then hk7
 simp only [Act.put, zs, z0, z1]
 refine sF rfl ?_
 refine wp_pickF (v := .bool false) rfl rfl rfl ?_
 simp only [Act.put, zs, z0, z1]
 refine sF rfl ?_
 refine wM (v := .bool false) rfl rfl ?_
 simp only [Act.put, zs, z0, z1]
 refine s_do (by rfl) ?_
 refine wM (v := .func (.func k) #[] cs) rfl rfl ?_
 simp only [Act.put, zs, z0, z1]
 refine s_do (by rfl) ?_
 refine wp_callv2 rfl rfl rfl rfl (hf _ _ _) ?_
 have H := hT _ ((hk6).trans hk7) PN1 PN2 a b (hPN1_4).lt (hPN2_4).lt hnePN1_PN2 ga gb (hPN1_7) (hPN2_7)
 rw [hTT] at H
 refine H.mono ?_
 rintro e wk8 ⟨rfl, hk8⟩
 refine ⟨_, rfl, ?_⟩
 have hPN3_t := (hPN3_7).grl hk8 (n2 (Ne.symm hnePN1_PN3) (Ne.symm hnePN2_PN3))
 have hPN4_t := (hPN4_7).grl hk8 (n2 (Ne.symm hnePN1_PN4) (Ne.symm hnePN2_PN4))
 have hF_t := (hF_7).app hk8 (r2 (.inr hge1) (.inr hge2))
 simp only [Act.put, zs, z0, z1]
 refine s_do (by rfl) ?_
 refine wp_notF rfl rfl ?_
 simp only [Act.put, zs, z0, z1]
 refine sF rfl ?_
 refine wp_pickF (v := .bool true) rfl rfl rfl ?_
 simp only [Act.put, zs, z0, z1]
 refine s_end ?_
 go_upto_region 5 with fail
 refine rG ?_
 refine sF rfl ?_
 refine wp_call0 rfl (by go_simp) ?_
 refine ((fun w => k_nothing w) _).mono ?_
 rintro e wk9 ⟨rfl, hk9⟩
 refine ⟨_, rfl, ?_⟩
 have hPN3_9 := (hPN3_t).gr hk9
 have hPN4_9 := (hPN4_t).gr hk9
 have hF_9 := (hF_t).then hk9
 simp only [Act.put, zs, z0, z1]
 refine sF rfl ?_
 refine wp_call0 rfl (by go_simp) ?_
 refine ((fun w => k_nothing w) _).mono ?_
 rintro e wk10 ⟨rfl, hk10⟩
 refine ⟨_, rfl, ?_⟩
 have hPN3_10 := (hPN3_9).gr hk10
 have hPN4_10 := (hPN4_9).gr hk10
 have hF_10 := (hF_9).then hk10
 simp only [Act.put, zs, z0, z1]
 refine sF rfl ?_
 refine wp_storeB rfl rfl rfl (hPN3_10) ?_
 intro ws11 hs11 gx11
 have hPN4_11 := (hPN4_10).grx gx11 (Ne.symm hnePN3_PN4)
 have hF_11 := (hF_10).thenx gx11 (.inr hge3)
 change AtA ws11 PN3 (bv nothingM) 30 at hs11
 simp only [Act.put, zs, z0, z1]
 refine sF rfl ?_
 refine wp_storeB rfl rfl rfl (hPN4_11) ?_
 intro ws12 hs12 gx12
 have hPN3_12 := (hs11).grx gx12 hnePN3_PN4
 have hF_12 := (hF_11).thenx gx12 (.inr hge4)
 change AtA ws12 PN4 (bv nothingM) 30 at hs12
 simp only [Act.put, zs, z0, z1]
 refine sF rfl ?_
 refine wA (v := .bool false) rfl rfl ?_
 simp only [Act.put, zs, z0, z1]
 refine sF rfl ?_
 refine wA (v := .int .i64 0) rfl rfl ?_
 simp only [Act.put, zs, z0, z1]
 refine s_end ?_
 obtain ⟨r0, r1, r2, r3, r4, r5, r6, r7, r8, r9⟩ := cells_bv (hPN3_12)
 obtain ⟨t0, t1, t2, t3, t4, t5, t6, t7, t8, t9⟩ := cells_bv (hs12)
 go_wp2
 refine bodyPost_ret (by simp [results, Tryz.results29, go_sem, r0, r1, r2, r3, r4, r5, r6, r7, r8, r9, t0, t1, t2, t3, t4, t5, t6, t7, t8, t9]; try rfl) rfl ?_
 exact ⟨rfl, (hF_12).gr0⟩
set_option maxHeartbeats 16000000 in
theorem ref_s1 (T : Bd → Bd → Option (Bd × Bd)) (c : Int) (wd so : Bool) (a b : Bd) (ga : Good a) (gb : Good b) (ct : ∀ w, Calls Tryz.prog 81 #[.int .u8 c, .bool wd, .bool so] w fun e w' => ∃ v, e = .returned v ∧ TellV v w w' T ∧ Gr w w') (z : Bd × Bd) (hTT : T a b = some z) (rg : Rng z.1 ∧ Rng z.2) (h1 : nnB (syncM z.1) = true) (w : World) : Calls Tryz.prog 29 #[.int .u8 c, .bool wd, .bool so, .agg (bv a), .agg (bv b)] w fun e w' => e = .returned (.tuple #[.agg (bv nothingM), .agg (bv nothingM), .bool false, .int .i64 0]) ∧ Gr w w' := by
 go_enter Tryz.func29, Tryz.ntmps29
 go_upto_region 0 with fail
 refine rG ?_
 refine sF rfl ?_
 refine wp_bx_B rfl rfl ?_
 intro ws1 hn1 hg1
 obtain ⟨PN1, hb1⟩ : ∃ b, w.heap.size = b := ⟨_, rfl⟩
 rw [hb1] at hn1 ⊢
 have hge1 := Nat.le_trans (GrL.refl [] w).size (Nat.le_of_eq hb1)
 have hF_1 := (GrL.refl [] w).then hg1
 simp only [Act.put, zs, z0, z1]
 refine sF rfl ?_
 refine wp_bx_B rfl rfl ?_
 intro ws2 hn2 hg2
 obtain ⟨PN2, hb2⟩ : ∃ b, ws1.heap.size = b := ⟨_, rfl⟩
 rw [hb2] at hn2 ⊢
 have hge2 := Nat.le_trans (hF_1).size (Nat.le_of_eq hb2)
 have hnePN1_PN2 : PN1 ≠ PN2 := nl (hn1).lt hb2
 have hPN1_2 := (hn1).gr hg2
 have hF_2 := (hF_1).then hg2
 simp only [Act.put, zs, z0, z1]
 refine sF rfl ?_
 refine wp_allocB rfl ?_
 intro ws3 hn3 hg3
 obtain ⟨PN3, hb3⟩ : ∃ b, ws2.heap.size = b := ⟨_, rfl⟩
 rw [hb3] at hn3 ⊢
 have hge3 := Nat.le_trans (hF_2).size (Nat.le_of_eq hb3)
 have hnePN1_PN3 : PN1 ≠ PN3 := nl (hPN1_2).lt hb3
 have hnePN2_PN3 : PN2 ≠ PN3 := nl (hn2).lt hb3
 have hPN1_3 := (hPN1_2).gr hg3
 have hPN2_3 := (hn2).gr hg3
 have hF_3 := (hF_2).then hg3
 simp only [Act.put, zs, z0, z1]
 refine sF rfl ?_
 refine wp_allocB rfl ?_
 intro ws4 hn4 hg4
 obtain ⟨PN4, hb4⟩ : ∃ b, ws3.heap.size = b := ⟨_, rfl⟩
 rw [hb4] at hn4 ⊢
 have hge4 := Nat.le_trans (hF_3).size (Nat.le_of_eq hb4)
 have hnePN1_PN4 : PN1 ≠ PN4 := nl (hPN1_3).lt hb4
 have hnePN2_PN4 : PN2 ≠ PN4 := nl (hPN2_3).lt hb4
 have hnePN3_PN4 : PN3 ≠ PN4 := nl (hn3).lt hb4
 have hPN1_4 := (hPN1_3).gr hg4
 have hPN2_4 := (hPN2_3).gr hg4
 have hPN3_4 := (hn3).gr hg4
 have hF_4 := (hF_3).then hg4
 simp only [Act.put, zs, z0, z1]
 refine sF rfl ?_
 refine wA (v := .bool false) rfl rfl ?_
 simp only [Act.put, zs, z0, z1]
 refine sF rfl ?_
 refine wA (v := .int .i64 0) rfl rfl ?_
 simp only [Act.put, zs, z0, z1]
 refine s_end ?_
 go_upto_region 1 with fail
 refine rG ?_
 refine sF rfl ?_
 refine wM (v := .int .u8 c) rfl rfl ?_
 simp only [Act.put, zs, z0, z1]
 refine sF rfl ?_
 refine wM (v := .bool wd) rfl rfl ?_
 simp only [Act.put, zs, z0, z1]
 refine sF rfl ?_
 refine wM (v := .bool so) rfl rfl ?_
 simp only [Act.put, zs, z0, z1]
 refine sF rfl ?_
 refine wp_call3 rfl rfl rfl rfl (by go_simp) ?_
 refine (ct _).mono ?_
 rintro e wk5 ⟨v, rfl, ⟨k, cs, rfl, hf, hT⟩, hk5⟩
 refine ⟨_, rfl, ?_⟩
 have hPN1_5 := (hPN1_4).gr hk5
 have hPN2_5 := (hPN2_4).gr hk5
 have hPN3_5 := (hPN3_4).gr hk5
 have hPN4_5 := (hn4).gr hk5
 have hF_5 := (hF_4).then hk5
 simp only [Act.put, zs, z0, z1]
 refine sF rfl ?_
 refine wA (v := .func (.func k) #[] cs) rfl rfl ?_
 simp only [Act.put, zs, z0, z1]
 refine s_end ?_
 go_upto_region 2 with fail
 refine rG ?_
 refine sF rfl ?_
 refine wM (v := .func (.func k) #[] cs) rfl rfl ?_
 simp only [Act.put, zs, z0, z1]
 refine sF rfl ?_
 refine wp_fnil rfl rfl ?_
 simp only [Act.put, zs, z0, z1]
 refine s_end ?_
 go_upto_region 4 with fail
 refine rG ?_
 refine sF rfl ?_
 refine wp_loadB rfl rfl (hPN1_5) ?_
 simp only [Act.put, zs, z0, z1]
 refine sF rfl ?_
 refine wp_call1 rfl rfl (by go_simp) ?_
 refine ((fun w => k_empty a ga w) _).mono ?_
 rintro e wk6 ⟨rfl, hk6⟩
 refine ⟨_, rfl, ?_⟩
 have hPN1_6 := (hPN1_5).gr hk6
 have hPN2_6 := (hPN2_5).gr hk6
 have hPN3_6 := (hPN3_5).gr hk6
 have hPN4_6 := (hPN4_5).gr hk6
 have hF_6 := (hF_5).then hk6
 simp only [Act.put, zs, z0, z1]
 refine sF rfl ?_
 refine wM (v := .bool false) rfl rfl ?_
 simp only [Act.put, zs, z0, z1]
 refine s_do (by rfl) ?_
 refine wp_loadB rfl rfl (hPN2_6) ?_
 simp only [Act.put, zs, z0, z1]
 refine s_do (by rfl) ?_
 refine wp_call1 rfl rfl (by go_simp) ?_
 refine ((fun w => k_empty b gb w) _).mono ?_
 rintro e wk7 ⟨rfl, hk7⟩
 refine ⟨_, rfl, ?_⟩
 have hPN1_7 := (hPN1_6).gr hk7
 have hPN2_7 := (hPN2_6).gr hk7
 have hPN3_7 := (hPN3_6).gr hk7
 have hPN4_7 := (hPN4_6).gr hk7
 have hF_7 := (hF_6).then hk7
 simp only [Act.put, zs, z0, z1]
 refine sF rfl ?_
 refine wp_pickF (v := .bool false) rfl rfl rfl ?_
 simp only [Act.put, zs, z0, z1]
 refine sF rfl ?_
 refine wM (v := .bool false) rfl rfl ?_
 simp only [Act.put, zs, z0, z1]
 refine s_do (by rfl) ?_
 refine wM (v := .func (.func k) #[] cs) rfl rfl ?_
 simp only [Act.put, zs, z0, z1]
 refine s_do (by rfl) ?_
 refine wp_callv2 rfl rfl rfl rfl (hf _ _ _) ?_
 have H := hT _ ((hk6).trans hk7) PN1 PN2 a b (hPN1_4).lt (hPN2_4).lt hnePN1_PN2 ga gb (hPN1_7) (hPN2_7)
 rw [hTT] at H
 refine H.mono ?_
 rintro e wk8 ⟨rfl, hpz, hqz, hk8⟩
 refine ⟨_, rfl, ?_⟩
 have hPN3_t := (hPN3_7).grl hk8 (n2 (Ne.symm hnePN1_PN3) (Ne.symm hnePN2_PN3))
 have hPN4_t := (hPN4_7).grl hk8 (n2 (Ne.symm hnePN1_PN4) (Ne.symm hnePN2_PN4))
 have hF_t := (hF_7).app hk8 (r2 (.inr hge1) (.inr hge2))
 simp only [Act.put, zs, z0, z1]
 refine s_do (by rfl) ?_
 refine wp_notT rfl rfl ?_
 simp only [Act.put, zs, z0, z1]
 refine sF rfl ?_
 refine wp_pickF (v := .bool false) rfl rfl rfl ?_
 simp only [Act.put, zs, z0, z1]
 refine s_end ?_
 go_upto_region 6 with fail
 refine wp_region_inv (by kernel_rfl) (fun L ac wx =>  ac = ⟨(.int .u8 c :: .bool wd :: .bool so :: .agg (bv a) :: .agg (bv b) :: undef :: undef :: undef :: .pointer (some ⟨PN1, 0, none⟩) :: .pointer (some ⟨PN2, 0, none⟩) :: .pointer (some ⟨PN3, 0, none⟩) :: .pointer (some ⟨PN4, 0, none⟩) :: .bool false :: .int .i64 0 :: .func (.func k) #[] cs :: .int .u8 c :: .bool wd :: .bool so :: .func (.func k) #[] cs :: .func (.func k) #[] cs :: .bool false :: undef :: undef :: .agg (bv a) :: .bool false :: .bool false :: .agg (bv b) :: .bool false :: .bool false :: .bool false :: .func (.func k) #[] cs :: .bool true :: .bool false :: .bool false :: undef :: undef :: sel (L 0) (.agg (bv z.1)) (undef) :: sel (L 1) (.agg (bv (syncM z.1))) (undef) :: sel (L 2) (.agg (bv z.2)) (undef) :: sel (L 3) (.agg (bv (syncM z.2))) (undef) :: undef :: undef :: undef :: undef :: undef :: undef :: undef :: undef :: undef :: undef :: [] : List Value).toArray, []⟩ ∧ GrL [PN3, PN4] wk8 wx ∧ AtA wx PN3 (sel (L 4) (bv (syncM z.1)) (bv zeroM)) 30 ∧ AtA wx PN4 (sel (L 5) (bv (syncM z.2)) (bv zeroM)) 30) (by kernel_rfl) ?h0 ?step ?fin
 case h0 => exact ⟨rfl, GrL.of (Gr.drew (Gr.refl _)), (hPN3_t).drew, (hPN4_t).drew⟩
 case step =>
  refine allOps_cons 0 ?_ ?_
  ·refine kF rfl ?_
   rintro L ac wx hL hd ⟨rfl, hG, APN3, APN4⟩
   have HL := (hpz).grl hG (n2 hnePN1_PN3 hnePN1_PN4)
   refine wp_loadB rfl rfl (HL) ?_
   exact ⟨rfl, hG, APN3, APN4⟩
  refine allOps_cons 1 ?_ ?_
  ·refine kF rfl ?_
   rintro L ac wx hL hd ⟨rfl, hG, APN3, APN4⟩
   obtain ⟨e0, -⟩ := hd
   refine wp_call1 rfl (sel_of (e0 rfl)) (by go_simp) ?_
   refine ((fun w => k_sync2 z.1 rg.1 w) _).mono ?_
   rintro e w1 ⟨rfl, hg⟩
   refine ⟨_, rfl, ?_⟩
   exact ⟨rfl, hG.then hg, APN3.gr hg, APN4.gr hg⟩
  refine allOps_cons 2 ?_ ?_
  ·refine kF rfl ?_
   rintro L ac wx hL hd ⟨rfl, hG, APN3, APN4⟩
   have HL := (hqz).grl hG (n2 hnePN2_PN3 hnePN2_PN4)
   refine wp_loadB rfl rfl (HL) ?_
   exact ⟨rfl, hG, APN3, APN4⟩
  refine allOps_cons 3 ?_ ?_
  ·refine kF rfl ?_
   rintro L ac wx hL hd ⟨rfl, hG, APN3, APN4⟩
   obtain ⟨e0, e1, -⟩ := hd
   refine wp_call1 rfl (sel_of (e0 rfl)) (by go_simp) ?_
   refine ((fun w => k_sync2 z.2 rg.2 w) _).mono ?_
   rintro e w1 ⟨rfl, hg⟩
   refine ⟨_, rfl, ?_⟩
   exact ⟨rfl, hG.then hg, APN3.gr hg, APN4.gr hg⟩
  refine allOps_cons 4 ?_ ?_
  ·refine kF rfl ?_
   rintro L ac wx hL hd ⟨rfl, hG, APN3, APN4⟩
   obtain ⟨e0, e1, e2, e3, e4, e5, -⟩ := hd
   have HL := APN3; rw [hL] at HL
   refine wp_storeB rfl rfl (sel_of (e0 rfl)) HL ?_
   intro w1 hn hgx
   exact ⟨rfl, hG.thenx hgx (.inl m21), hn, APN4.grx hgx (Ne.symm hnePN3_PN4)⟩
  refine allOps_cons 5 ?_ ?_
  ·refine kF rfl ?_
   rintro L ac wx hL hd ⟨rfl, hG, APN3, APN4⟩
   obtain ⟨e0, e1, e2, e3, e4, e5, e6, -⟩ := hd
   have HL := APN4; rw [hL] at HL
   refine wp_storeB rfl rfl (sel_of (e0 rfl)) HL ?_
   intro w1 hn hgx
   exact ⟨rfl, hG.thenx hgx (.inl m22), APN3.grx hgx hnePN3_PN4, hn⟩
  exact allOps_nil 6
 case fin =>
  rintro L ac wf9 hall ⟨rfl, hG9, B9PN3, B9PN4⟩
  have l0 : L 0 = true := hall 0 (by decide)
  have l1 : L 1 = true := hall 1 (by decide)
  have l2 : L 2 = true := hall 2 (by decide)
  have l3 : L 3 = true := hall 3 (by decide)
  have l4 : L 4 = true := hall 4 (by decide)
  have l5 : L 5 = true := hall 5 (by decide)
  rw [l4] at B9PN3
  change AtA wf9 PN3 (bv (syncM z.1)) 30 at B9PN3
  rw [l5] at B9PN4
  change AtA wf9 PN4 (bv (syncM z.2)) 30 at B9PN4
  simp only [l0, l1, l2, l3, sel_t]
  have hPN1_c9 := (hpz).grl hG9 (n2 hnePN1_PN3 hnePN1_PN4)
  have hPN2_c9 := (hqz).grl hG9 (n2 hnePN2_PN3 hnePN2_PN4)
  have hF_c9 := (hF_t).app hG9 (r2 (.inr hge3) (.inr hge4))
  clear l0 l1 l2 l3 l4 l5 hall
  go_upto_region 7 with fail
  refine rG ?_
  refine sF rfl ?_
  refine wp_loadB rfl rfl (B9PN3) ?_
  simp only [Act.put, zs, z0, z1]
  refine sF rfl ?_
  refine wp_call1 rfl rfl (by go_simp) ?_
  refine ((fun w => k_none (syncM z.1) w) _).mono ?_
  rintro e wk10 ⟨he10, hk10⟩
  obtain rfl : e = .returned (.bool true) := he10.trans (by rw [h1])
  clear he10
  refine ⟨_, rfl, ?_⟩
  have hPN1_10 := (hPN1_c9).gr hk10
  have hPN2_10 := (hPN2_c9).gr hk10
  have hPN3_10 := (B9PN3).gr hk10
  have hPN4_10 := (B9PN4).gr hk10
  have hF_10 := (hF_c9).then hk10
  simp only [Act.put, zs, z0, z1]
  refine sF rfl ?_
  refine wM (v := .bool true) rfl rfl ?_
  simp only [Act.put, zs, z0, z1]
  refine s_skip (by rfl) ?_
  simp only [Act.put, zs, z0, z1]
  refine s_skip (by rfl) ?_
  simp only [Act.put, zs, z0, z1]
  refine sF rfl ?_
  refine wp_pickT (v := .bool true) rfl rfl rfl ?_
  simp only [Act.put, zs, z0, z1]
  refine s_end ?_
  go_upto_region 8 with fail
  refine rG ?_
  refine sF rfl ?_
  refine wp_call0 rfl (by go_simp) ?_
  refine ((fun w => k_nothing w) _).mono ?_
  rintro e wk11 ⟨rfl, hk11⟩
  refine ⟨_, rfl, ?_⟩
  have hPN1_11 := (hPN1_10).gr hk11
  have hPN2_11 := (hPN2_10).gr hk11
  have hPN3_11 := (hPN3_10).gr hk11
  have hPN4_11 := (hPN4_10).gr hk11
  have hF_11 := (hF_10).then hk11
  simp only [Act.put, zs, z0, z1]
  refine sF rfl ?_
  refine wp_call0 rfl (by go_simp) ?_
  refine ((fun w => k_nothing w) _).mono ?_
  rintro e wk12 ⟨rfl, hk12⟩
  refine ⟨_, rfl, ?_⟩
  have hPN1_12 := (hPN1_11).gr hk12
  have hPN2_12 := (hPN2_11).gr hk12
  have hPN3_12 := (hPN3_11).gr hk12
  have hPN4_12 := (hPN4_11).gr hk12
  have hF_12 := (hF_11).then hk12
  simp only [Act.put, zs, z0, z1]
  refine sF rfl ?_
  refine wp_storeB rfl rfl rfl (hPN3_12) ?_
  intro ws13 hs13 gx13
  have hPN1_13 := (hPN1_12).grx gx13 hnePN1_PN3
  have hPN2_13 := (hPN2_12).grx gx13 hnePN2_PN3
  have hPN4_13 := (hPN4_12).grx gx13 (Ne.symm hnePN3_PN4)
  have hF_13 := (hF_12).thenx gx13 (.inr hge3)
  change AtA ws13 PN3 (bv nothingM) 30 at hs13
  simp only [Act.put, zs, z0, z1]
  refine sF rfl ?_
  refine wp_storeB rfl rfl rfl (hPN4_13) ?_
  intro ws14 hs14 gx14
  have hPN1_14 := (hPN1_13).grx gx14 hnePN1_PN4
  have hPN2_14 := (hPN2_13).grx gx14 hnePN2_PN4
  have hPN3_14 := (hs13).grx gx14 hnePN3_PN4
  have hF_14 := (hF_13).thenx gx14 (.inr hge4)
  change AtA ws14 PN4 (bv nothingM) 30 at hs14
  simp only [Act.put, zs, z0, z1]
  refine sF rfl ?_
  refine wA (v := .bool false) rfl rfl ?_
  simp only [Act.put, zs, z0, z1]
  refine sF rfl ?_
  refine wA (v := .int .i64 0) rfl rfl ?_
  simp only [Act.put, zs, z0, z1]
  refine s_end ?_
  obtain ⟨r0, r1, r2, r3, r4, r5, r6, r7, r8, r9⟩ := cells_bv (hPN3_14)
  obtain ⟨t0, t1, t2, t3, t4, t5, t6, t7, t8, t9⟩ := cells_bv (hs14)
  go_wp2
  refine bodyPost_ret (by simp [results, Tryz.results29, go_sem, r0, r1, r2, r3, r4, r5, r6, r7, r8, r9, t0, t1, t2, t3, t4, t5, t6, t7, t8, t9]; try rfl) rfl ?_
  exact ⟨rfl, (hF_14).gr0⟩
set_option maxHeartbeats 16000000 in
theorem ref_s2 (T : Bd → Bd → Option (Bd × Bd)) (c : Int) (wd so : Bool) (a b : Bd) (ga : Good a) (gb : Good b) (ct : ∀ w, Calls Tryz.prog 81 #[.int .u8 c, .bool wd, .bool so] w fun e w' => ∃ v, e = .returned v ∧ TellV v w w' T ∧ Gr w w') (z : Bd × Bd) (hTT : T a b = some z) (rg : Rng z.1 ∧ Rng z.2) (h1 : nnB (syncM z.1) = false) (h2 : nnB (syncM z.2) = true) (w : World) : Calls Tryz.prog 29 #[.int .u8 c, .bool wd, .bool so, .agg (bv a), .agg (bv b)] w fun e w' => e = .returned (.tuple #[.agg (bv nothingM), .agg (bv nothingM), .bool false, .int .i64 0]) ∧ Gr w w' := by
 go_enter Tryz.func29, Tryz.ntmps29
 go_upto_region 0 with fail
 refine rG ?_
 refine sF rfl ?_
 refine wp_bx_B rfl rfl ?_
 intro ws1 hn1 hg1
 obtain ⟨PN1, hb1⟩ : ∃ b, w.heap.size = b := ⟨_, rfl⟩
 rw [hb1] at hn1 ⊢
 have hge1 := Nat.le_trans (GrL.refl [] w).size (Nat.le_of_eq hb1)
 have hF_1 := (GrL.refl [] w).then hg1
 simp only [Act.put, zs, z0, z1]
 refine sF rfl ?_
 refine wp_bx_B rfl rfl ?_
 intro ws2 hn2 hg2
 obtain ⟨PN2, hb2⟩ : ∃ b, ws1.heap.size = b := ⟨_, rfl⟩
 rw [hb2] at hn2 ⊢
 have hge2 := Nat.le_trans (hF_1).size (Nat.le_of_eq hb2)
 have hnePN1_PN2 : PN1 ≠ PN2 := nl (hn1).lt hb2
 have hPN1_2 := (hn1).gr hg2
 have hF_2 := (hF_1).then hg2
 simp only [Act.put, zs, z0, z1]
 refine sF rfl ?_
 refine wp_allocB rfl ?_
 intro ws3 hn3 hg3
 obtain ⟨PN3, hb3⟩ : ∃ b, ws2.heap.size = b := ⟨_, rfl⟩
 rw [hb3] at hn3 ⊢
 have hge3 := Nat.le_trans (hF_2).size (Nat.le_of_eq hb3)
 have hnePN1_PN3 : PN1 ≠ PN3 := nl (hPN1_2).lt hb3
 have hnePN2_PN3 : PN2 ≠ PN3 := nl (hn2).lt hb3
 have hPN1_3 := (hPN1_2).gr hg3
 have hPN2_3 := (hn2).gr hg3
 have hF_3 := (hF_2).then hg3
 simp only [Act.put, zs, z0, z1]
 refine sF rfl ?_
 refine wp_allocB rfl ?_
 intro ws4 hn4 hg4
 obtain ⟨PN4, hb4⟩ : ∃ b, ws3.heap.size = b := ⟨_, rfl⟩
 rw [hb4] at hn4 ⊢
 have hge4 := Nat.le_trans (hF_3).size (Nat.le_of_eq hb4)
 have hnePN1_PN4 : PN1 ≠ PN4 := nl (hPN1_3).lt hb4
 have hnePN2_PN4 : PN2 ≠ PN4 := nl (hPN2_3).lt hb4
 have hnePN3_PN4 : PN3 ≠ PN4 := nl (hn3).lt hb4
 have hPN1_4 := (hPN1_3).gr hg4
 have hPN2_4 := (hPN2_3).gr hg4
 have hPN3_4 := (hn3).gr hg4
 have hF_4 := (hF_3).then hg4
 simp only [Act.put, zs, z0, z1]
 refine sF rfl ?_
 refine wA (v := .bool false) rfl rfl ?_
 simp only [Act.put, zs, z0, z1]
 refine sF rfl ?_
 refine wA (v := .int .i64 0) rfl rfl ?_
 simp only [Act.put, zs, z0, z1]
 refine s_end ?_
 go_upto_region 1 with fail
 refine rG ?_
 refine sF rfl ?_
 refine wM (v := .int .u8 c) rfl rfl ?_
 simp only [Act.put, zs, z0, z1]
 refine sF rfl ?_
 refine wM (v := .bool wd) rfl rfl ?_
 simp only [Act.put, zs, z0, z1]
 refine sF rfl ?_
 refine wM (v := .bool so) rfl rfl ?_
 simp only [Act.put, zs, z0, z1]
 refine sF rfl ?_
 refine wp_call3 rfl rfl rfl rfl (by go_simp) ?_
 refine (ct _).mono ?_
 rintro e wk5 ⟨v, rfl, ⟨k, cs, rfl, hf, hT⟩, hk5⟩
 refine ⟨_, rfl, ?_⟩
 have hPN1_5 := (hPN1_4).gr hk5
 have hPN2_5 := (hPN2_4).gr hk5
 have hPN3_5 := (hPN3_4).gr hk5
 have hPN4_5 := (hn4).gr hk5
 have hF_5 := (hF_4).then hk5
 simp only [Act.put, zs, z0, z1]
 refine sF rfl ?_
 refine wA (v := .func (.func k) #[] cs) rfl rfl ?_
 simp only [Act.put, zs, z0, z1]
 refine s_end ?_
 go_upto_region 2 with fail
 refine rG ?_
 refine sF rfl ?_
 refine wM (v := .func (.func k) #[] cs) rfl rfl ?_
 simp only [Act.put, zs, z0, z1]
 refine sF rfl ?_
 refine wp_fnil rfl rfl ?_
 simp only [Act.put, zs, z0, z1]
 refine s_end ?_
 go_upto_region 4 with fail
 refine rG ?_
 refine sF rfl ?_
 refine wp_loadB rfl rfl (hPN1_5) ?_
 simp only [Act.put, zs, z0, z1]
 refine sF rfl ?_
 refine wp_call1 rfl rfl (by go_simp) ?_
 refine ((fun w => k_empty a ga w) _).mono ?_
 rintro e wk6 ⟨rfl, hk6⟩
 refine ⟨_, rfl, ?_⟩
 have hPN1_6 := (hPN1_5).gr hk6
 have hPN2_6 := (hPN2_5).gr hk6
 have hPN3_6 := (hPN3_5).gr hk6
 have hPN4_6 := (hPN4_5).gr hk6
 have hF_6 := (hF_5).then hk6
 simp only [Act.put, zs, z0, z1]
 refine sF rfl ?_
 refine wM (v := .bool false) rfl rfl ?_
 simp only [Act.put, zs, z0, z1]
 refine s_do (by rfl) ?_
 refine wp_loadB rfl rfl (hPN2_6) ?_
 simp only [Act.put, zs, z0, z1]
 refine s_do (by rfl) ?_
 refine wp_call1 rfl rfl (by go_simp) ?_
 refine ((fun w => k_empty b gb w) _).mono ?_
 rintro e wk7 ⟨rfl, hk7⟩
 refine ⟨_, rfl, ?_⟩
 have hPN1_7 := (hPN1_6).gr hk7
 have hPN2_7 := (hPN2_6).gr hk7
 have hPN3_7 := (hPN3_6).gr hk7
 have hPN4_7 := (hPN4_6).gr hk7
 have hF_7 := (hF_6).then hk7
 simp only [Act.put, zs, z0, z1]
 refine sF rfl ?_
 refine wp_pickF (v := .bool false) rfl rfl rfl ?_
 simp only [Act.put, zs, z0, z1]
 refine sF rfl ?_
 refine wM (v := .bool false) rfl rfl ?_
 simp only [Act.put, zs, z0, z1]
 refine s_do (by rfl) ?_
 refine wM (v := .func (.func k) #[] cs) rfl rfl ?_
 simp only [Act.put, zs, z0, z1]
 refine s_do (by rfl) ?_
 refine wp_callv2 rfl rfl rfl rfl (hf _ _ _) ?_
 have H := hT _ ((hk6).trans hk7) PN1 PN2 a b (hPN1_4).lt (hPN2_4).lt hnePN1_PN2 ga gb (hPN1_7) (hPN2_7)
 rw [hTT] at H
 refine H.mono ?_
 rintro e wk8 ⟨rfl, hpz, hqz, hk8⟩
 refine ⟨_, rfl, ?_⟩
 have hPN3_t := (hPN3_7).grl hk8 (n2 (Ne.symm hnePN1_PN3) (Ne.symm hnePN2_PN3))
 have hPN4_t := (hPN4_7).grl hk8 (n2 (Ne.symm hnePN1_PN4) (Ne.symm hnePN2_PN4))
 have hF_t := (hF_7).app hk8 (r2 (.inr hge1) (.inr hge2))
 simp only [Act.put, zs, z0, z1]
 refine s_do (by rfl) ?_
 refine wp_notT rfl rfl ?_
 simp only [Act.put, zs, z0, z1]
 refine sF rfl ?_
 refine wp_pickF (v := .bool false) rfl rfl rfl ?_
 simp only [Act.put, zs, z0, z1]
 refine s_end ?_
 go_upto_region 6 with fail
 refine wp_region_inv (by kernel_rfl) (fun L ac wx =>  ac = ⟨(.int .u8 c :: .bool wd :: .bool so :: .agg (bv a) :: .agg (bv b) :: undef :: undef :: undef :: .pointer (some ⟨PN1, 0, none⟩) :: .pointer (some ⟨PN2, 0, none⟩) :: .pointer (some ⟨PN3, 0, none⟩) :: .pointer (some ⟨PN4, 0, none⟩) :: .bool false :: .int .i64 0 :: .func (.func k) #[] cs :: .int .u8 c :: .bool wd :: .bool so :: .func (.func k) #[] cs :: .func (.func k) #[] cs :: .bool false :: undef :: undef :: .agg (bv a) :: .bool false :: .bool false :: .agg (bv b) :: .bool false :: .bool false :: .bool false :: .func (.func k) #[] cs :: .bool true :: .bool false :: .bool false :: undef :: undef :: sel (L 0) (.agg (bv z.1)) (undef) :: sel (L 1) (.agg (bv (syncM z.1))) (undef) :: sel (L 2) (.agg (bv z.2)) (undef) :: sel (L 3) (.agg (bv (syncM z.2))) (undef) :: undef :: undef :: undef :: undef :: undef :: undef :: undef :: undef :: undef :: undef :: [] : List Value).toArray, []⟩ ∧ GrL [PN3, PN4] wk8 wx ∧ AtA wx PN3 (sel (L 4) (bv (syncM z.1)) (bv zeroM)) 30 ∧ AtA wx PN4 (sel (L 5) (bv (syncM z.2)) (bv zeroM)) 30) (by kernel_rfl) ?h0 ?step ?fin
 case h0 => exact ⟨rfl, GrL.of (Gr.drew (Gr.refl _)), (hPN3_t).drew, (hPN4_t).drew⟩
 case step =>
  refine allOps_cons 0 ?_ ?_
  ·refine kF rfl ?_
   rintro L ac wx hL hd ⟨rfl, hG, APN3, APN4⟩
   have HL := (hpz).grl hG (n2 hnePN1_PN3 hnePN1_PN4)
   refine wp_loadB rfl rfl (HL) ?_
   exact ⟨rfl, hG, APN3, APN4⟩
  refine allOps_cons 1 ?_ ?_
  ·refine kF rfl ?_
   rintro L ac wx hL hd ⟨rfl, hG, APN3, APN4⟩
   obtain ⟨e0, -⟩ := hd
   refine wp_call1 rfl (sel_of (e0 rfl)) (by go_simp) ?_
   refine ((fun w => k_sync2 z.1 rg.1 w) _).mono ?_
   rintro e w1 ⟨rfl, hg⟩
   refine ⟨_, rfl, ?_⟩
   exact ⟨rfl, hG.then hg, APN3.gr hg, APN4.gr hg⟩
  refine allOps_cons 2 ?_ ?_
  ·refine kF rfl ?_
   rintro L ac wx hL hd ⟨rfl, hG, APN3, APN4⟩
   have HL := (hqz).grl hG (n2 hnePN2_PN3 hnePN2_PN4)
   refine wp_loadB rfl rfl (HL) ?_
   exact ⟨rfl, hG, APN3, APN4⟩
  refine allOps_cons 3 ?_ ?_
  ·refine kF rfl ?_
   rintro L ac wx hL hd ⟨rfl, hG, APN3, APN4⟩
   obtain ⟨e0, e1, -⟩ := hd
   refine wp_call1 rfl (sel_of (e0 rfl)) (by go_simp) ?_
   refine ((fun w => k_sync2 z.2 rg.2 w) _).mono ?_
   rintro e w1 ⟨rfl, hg⟩
   refine ⟨_, rfl, ?_⟩
   exact ⟨rfl, hG.then hg, APN3.gr hg, APN4.gr hg⟩
  refine allOps_cons 4 ?_ ?_
  ·refine kF rfl ?_
   rintro L ac wx hL hd ⟨rfl, hG, APN3, APN4⟩
   obtain ⟨e0, e1, e2, e3, e4, e5, -⟩ := hd
   have HL := APN3; rw [hL] at HL
   refine wp_storeB rfl rfl (sel_of (e0 rfl)) HL ?_
   intro w1 hn hgx
   exact ⟨rfl, hG.thenx hgx (.inl m21), hn, APN4.grx hgx (Ne.symm hnePN3_PN4)⟩
  refine allOps_cons 5 ?_ ?_
  ·refine kF rfl ?_
   rintro L ac wx hL hd ⟨rfl, hG, APN3, APN4⟩
   obtain ⟨e0, e1, e2, e3, e4, e5, e6, -⟩ := hd
   have HL := APN4; rw [hL] at HL
   refine wp_storeB rfl rfl (sel_of (e0 rfl)) HL ?_
   intro w1 hn hgx
   exact ⟨rfl, hG.thenx hgx (.inl m22), APN3.grx hgx hnePN3_PN4, hn⟩
  exact allOps_nil 6
 case fin =>
  rintro L ac wf9 hall ⟨rfl, hG9, B9PN3, B9PN4⟩
  have l0 : L 0 = true := hall 0 (by decide)
  have l1 : L 1 = true := hall 1 (by decide)
  have l2 : L 2 = true := hall 2 (by decide)
  have l3 : L 3 = true := hall 3 (by decide)
  have l4 : L 4 = true := hall 4 (by decide)
  have l5 : L 5 = true := hall 5 (by decide)
  rw [l4] at B9PN3
  change AtA wf9 PN3 (bv (syncM z.1)) 30 at B9PN3
  rw [l5] at B9PN4
  change AtA wf9 PN4 (bv (syncM z.2)) 30 at B9PN4
  simp only [l0, l1, l2, l3, sel_t]
  have hPN1_c9 := (hpz).grl hG9 (n2 hnePN1_PN3 hnePN1_PN4)
  have hPN2_c9 := (hqz).grl hG9 (n2 hnePN2_PN3 hnePN2_PN4)
  have hF_c9 := (hF_t).app hG9 (r2 (.inr hge3) (.inr hge4))
  clear l0 l1 l2 l3 l4 l5 hall
  go_upto_region 7 with fail
  refine rG ?_
  refine sF rfl ?_
  refine wp_loadB rfl rfl (B9PN3) ?_
  simp only [Act.put, zs, z0, z1]
  refine sF rfl ?_
  refine wp_call1 rfl rfl (by go_simp) ?_
  refine ((fun w => k_none (syncM z.1) w) _).mono ?_
  rintro e wk10 ⟨he10, hk10⟩
  obtain rfl : e = .returned (.bool false) := he10.trans (by rw [h1])
  clear he10
  refine ⟨_, rfl, ?_⟩
  have hPN1_10 := (hPN1_c9).gr hk10
  have hPN2_10 := (hPN2_c9).gr hk10
  have hPN3_10 := (B9PN3).gr hk10
  have hPN4_10 := (B9PN4).gr hk10
  have hF_10 := (hF_c9).then hk10
  simp only [Act.put, zs, z0, z1]
  refine sF rfl ?_
  refine wM (v := .bool false) rfl rfl ?_
  simp only [Act.put, zs, z0, z1]
  refine s_do (by rfl) ?_
  refine wp_loadB rfl rfl (hPN4_10) ?_
  simp only [Act.put, zs, z0, z1]
  refine s_do (by rfl) ?_
  refine wp_call1 rfl rfl (by go_simp) ?_
  refine ((fun w => k_none (syncM z.2) w) _).mono ?_
  rintro e wk11 ⟨he11, hk11⟩
  obtain rfl : e = .returned (.bool true) := he11.trans (by rw [h2])
  clear he11
  refine ⟨_, rfl, ?_⟩
  have hPN1_11 := (hPN1_10).gr hk11
  have hPN2_11 := (hPN2_10).gr hk11
  have hPN3_11 := (hPN3_10).gr hk11
  have hPN4_11 := (hPN4_10).gr hk11
  have hF_11 := (hF_10).then hk11
  simp only [Act.put, zs, z0, z1]
  refine sF rfl ?_
  refine wp_pickF (v := .bool true) rfl rfl rfl ?_
  simp only [Act.put, zs, z0, z1]
  refine s_end ?_
  go_upto_region 8 with fail
  refine rG ?_
  refine sF rfl ?_
  refine wp_call0 rfl (by go_simp) ?_
  refine ((fun w => k_nothing w) _).mono ?_
  rintro e wk12 ⟨rfl, hk12⟩
  refine ⟨_, rfl, ?_⟩
  have hPN1_12 := (hPN1_11).gr hk12
  have hPN2_12 := (hPN2_11).gr hk12
  have hPN3_12 := (hPN3_11).gr hk12
  have hPN4_12 := (hPN4_11).gr hk12
  have hF_12 := (hF_11).then hk12
  simp only [Act.put, zs, z0, z1]
  refine sF rfl ?_
  refine wp_call0 rfl (by go_simp) ?_
  refine ((fun w => k_nothing w) _).mono ?_
  rintro e wk13 ⟨rfl, hk13⟩
  refine ⟨_, rfl, ?_⟩
  have hPN1_13 := (hPN1_12).gr hk13
  have hPN2_13 := (hPN2_12).gr hk13
  have hPN3_13 := (hPN3_12).gr hk13
  have hPN4_13 := (hPN4_12).gr hk13
  have hF_13 := (hF_12).then hk13
  simp only [Act.put, zs, z0, z1]
  refine sF rfl ?_
  refine wp_storeB rfl rfl rfl (hPN3_13) ?_
  intro ws14 hs14 gx14
  have hPN1_14 := (hPN1_13).grx gx14 hnePN1_PN3
  have hPN2_14 := (hPN2_13).grx gx14 hnePN2_PN3
  have hPN4_14 := (hPN4_13).grx gx14 (Ne.symm hnePN3_PN4)
  have hF_14 := (hF_13).thenx gx14 (.inr hge3)
  change AtA ws14 PN3 (bv nothingM) 30 at hs14
  simp only [Act.put, zs, z0, z1]
  refine sF rfl ?_
  refine wp_storeB rfl rfl rfl (hPN4_14) ?_
  intro ws15 hs15 gx15
  have hPN1_15 := (hPN1_14).grx gx15 hnePN1_PN4
  have hPN2_15 := (hPN2_14).grx gx15 hnePN2_PN4
  have hPN3_15 := (hs14).grx gx15 hnePN3_PN4
  have hF_15 := (hF_14).thenx gx15 (.inr hge4)
  change AtA ws15 PN4 (bv nothingM) 30 at hs15
  simp only [Act.put, zs, z0, z1]
  refine sF rfl ?_
  refine wA (v := .bool false) rfl rfl ?_
  simp only [Act.put, zs, z0, z1]
  refine sF rfl ?_
  refine wA (v := .int .i64 0) rfl rfl ?_
  simp only [Act.put, zs, z0, z1]
  refine s_end ?_
  obtain ⟨r0, r1, r2, r3, r4, r5, r6, r7, r8, r9⟩ := cells_bv (hPN3_15)
  obtain ⟨t0, t1, t2, t3, t4, t5, t6, t7, t8, t9⟩ := cells_bv (hs15)
  go_wp2
  refine bodyPost_ret (by simp [results, Tryz.results29, go_sem, r0, r1, r2, r3, r4, r5, r6, r7, r8, r9, t0, t1, t2, t3, t4, t5, t6, t7, t8, t9]; try rfl) rfl ?_
  exact ⟨rfl, (hF_15).gr0⟩
set_option maxHeartbeats 16000000 in
theorem ref_ss (T : Bd → Bd → Option (Bd × Bd)) (c : Int) (wd so : Bool) (a b : Bd) (ga : Good a) (gb : Good b) (ct : ∀ w, Calls Tryz.prog 81 #[.int .u8 c, .bool wd, .bool so] w fun e w' => ∃ v, e = .returned v ∧ TellV v w w' T ∧ Gr w w') (z : Bd × Bd) (hTT : T a b = some z) (rg : Rng z.1 ∧ Rng z.2) (h1 : nnB (syncM z.1) = false) (h2 : nnB (syncM z.2) = false) (w : World) : Calls Tryz.prog 29 #[.int .u8 c, .bool wd, .bool so, .agg (bv a), .agg (bv b)] w fun e w' => e = .returned (.tuple #[.agg (bv (syncM z.1)), .agg (bv (syncM z.2)), .bool true, .int .i64 0]) ∧ Gr w w' := by
 go_enter Tryz.func29, Tryz.ntmps29
 go_upto_region 0 with fail
 refine rG ?_
 refine sF rfl ?_
 refine wp_bx_B rfl rfl ?_
 intro ws1 hn1 hg1
 obtain ⟨PN1, hb1⟩ : ∃ b, w.heap.size = b := ⟨_, rfl⟩
 rw [hb1] at hn1 ⊢
 have hge1 := Nat.le_trans (GrL.refl [] w).size (Nat.le_of_eq hb1)
 have hF_1 := (GrL.refl [] w).then hg1
 simp only [Act.put, zs, z0, z1]
 refine sF rfl ?_
 refine wp_bx_B rfl rfl ?_
 intro ws2 hn2 hg2
 obtain ⟨PN2, hb2⟩ : ∃ b, ws1.heap.size = b := ⟨_, rfl⟩
 rw [hb2] at hn2 ⊢
 have hge2 := Nat.le_trans (hF_1).size (Nat.le_of_eq hb2)
 have hnePN1_PN2 : PN1 ≠ PN2 := nl (hn1).lt hb2
 have hPN1_2 := (hn1).gr hg2
 have hF_2 := (hF_1).then hg2
 simp only [Act.put, zs, z0, z1]
 refine sF rfl ?_
 refine wp_allocB rfl ?_
 intro ws3 hn3 hg3
 obtain ⟨PN3, hb3⟩ : ∃ b, ws2.heap.size = b := ⟨_, rfl⟩
 rw [hb3] at hn3 ⊢
 have hge3 := Nat.le_trans (hF_2).size (Nat.le_of_eq hb3)
 have hnePN1_PN3 : PN1 ≠ PN3 := nl (hPN1_2).lt hb3
 have hnePN2_PN3 : PN2 ≠ PN3 := nl (hn2).lt hb3
 have hPN1_3 := (hPN1_2).gr hg3
 have hPN2_3 := (hn2).gr hg3
 have hF_3 := (hF_2).then hg3
 simp only [Act.put, zs, z0, z1]
 refine sF rfl ?_
 refine wp_allocB rfl ?_
 intro ws4 hn4 hg4
 obtain ⟨PN4, hb4⟩ : ∃ b, ws3.heap.size = b := ⟨_, rfl⟩
 rw [hb4] at hn4 ⊢
 have hge4 := Nat.le_trans (hF_3).size (Nat.le_of_eq hb4)
 have hnePN1_PN4 : PN1 ≠ PN4 := nl (hPN1_3).lt hb4
 have hnePN2_PN4 : PN2 ≠ PN4 := nl (hPN2_3).lt hb4
 have hnePN3_PN4 : PN3 ≠ PN4 := nl (hn3).lt hb4
 have hPN1_4 := (hPN1_3).gr hg4
 have hPN2_4 := (hPN2_3).gr hg4
 have hPN3_4 := (hn3).gr hg4
 have hF_4 := (hF_3).then hg4
 simp only [Act.put, zs, z0, z1]
 refine sF rfl ?_
 refine wA (v := .bool false) rfl rfl ?_
 simp only [Act.put, zs, z0, z1]
 refine sF rfl ?_
 refine wA (v := .int .i64 0) rfl rfl ?_
 simp only [Act.put, zs, z0, z1]
 refine s_end ?_
 go_upto_region 1 with fail
 refine rG ?_
 refine sF rfl ?_
 refine wM (v := .int .u8 c) rfl rfl ?_
 simp only [Act.put, zs, z0, z1]
 refine sF rfl ?_
 refine wM (v := .bool wd) rfl rfl ?_
 simp only [Act.put, zs, z0, z1]
 refine sF rfl ?_
 refine wM (v := .bool so) rfl rfl ?_
 simp only [Act.put, zs, z0, z1]
 refine sF rfl ?_
 refine wp_call3 rfl rfl rfl rfl (by go_simp) ?_
 refine (ct _).mono ?_
 rintro e wk5 ⟨v, rfl, ⟨k, cs, rfl, hf, hT⟩, hk5⟩
 refine ⟨_, rfl, ?_⟩
 have hPN1_5 := (hPN1_4).gr hk5
 have hPN2_5 := (hPN2_4).gr hk5
 have hPN3_5 := (hPN3_4).gr hk5
 have hPN4_5 := (hn4).gr hk5
 have hF_5 := (hF_4).then hk5
 simp only [Act.put, zs, z0, z1]
 refine sF rfl ?_
 refine wA (v := .func (.func k) #[] cs) rfl rfl ?_
 simp only [Act.put, zs, z0, z1]
 refine s_end ?_
 go_upto_region 2 with fail
 refine rG ?_
 refine sF rfl ?_
 refine wM (v := .func (.func k) #[] cs) rfl rfl ?_
 simp only [Act.put, zs, z0, z1]
 refine sF rfl ?_
 refine wp_fnil rfl rfl ?_
 simp only [Act.put, zs, z0, z1]
 refine s_end ?_
 go_upto_region 4 with fail
 refine rG ?_
 refine sF rfl ?_
 refine wp_loadB rfl rfl (hPN1_5) ?_
 simp only [Act.put, zs, z0, z1]
 refine sF rfl ?_
 refine wp_call1 rfl rfl (by go_simp) ?_
 refine ((fun w => k_empty a ga w) _).mono ?_
 rintro e wk6 ⟨rfl, hk6⟩
 refine ⟨_, rfl, ?_⟩
 have hPN1_6 := (hPN1_5).gr hk6
 have hPN2_6 := (hPN2_5).gr hk6
 have hPN3_6 := (hPN3_5).gr hk6
 have hPN4_6 := (hPN4_5).gr hk6
 have hF_6 := (hF_5).then hk6
 simp only [Act.put, zs, z0, z1]
 refine sF rfl ?_
 refine wM (v := .bool false) rfl rfl ?_
 simp only [Act.put, zs, z0, z1]
 refine s_do (by rfl) ?_
 refine wp_loadB rfl rfl (hPN2_6) ?_
 simp only [Act.put, zs, z0, z1]
 refine s_do (by rfl) ?_
 refine wp_call1 rfl rfl (by go_simp) ?_
 refine ((fun w => k_empty b gb w) _).mono ?_
 rintro e wk7 ⟨rfl, hk7⟩
 refine ⟨_, rfl, ?_⟩
 have hPN1_7 := (hPN1_6).gr hk7
 have hPN2_7 := (hPN2_6).gr hk7
 have hPN3_7 := (hPN3_6).gr hk7
 have hPN4_7 := (hPN4_6).gr hk7
 have hF_7 := (hF_6).then hk7
 simp only [Act.put, zs, z0, z1]
 refine sF rfl ?_
 refine wp_pickF (v := .bool false) rfl rfl rfl ?_
 simp only [Act.put, zs, z0, z1]
 refine sF rfl ?_
 refine wM (v := .bool false) rfl rfl ?_
 simp only [Act.put, zs, z0, z1]
 refine s_do (by rfl) ?_
 refine wM (v := .func (.func k) #[] cs) rfl rfl ?_
 simp only [Act.put, zs, z0, z1]
 refine s_do (by rfl) ?_
 refine wp_callv2 rfl rfl rfl rfl (hf _ _ _) ?_
 have H := hT _ ((hk6).trans hk7) PN1 PN2 a b (hPN1_4).lt (hPN2_4).lt hnePN1_PN2 ga gb (hPN1_7) (hPN2_7)
 rw [hTT] at H
 refine H.mono ?_
 rintro e wk8 ⟨rfl, hpz, hqz, hk8⟩
 refine ⟨_, rfl, ?_⟩
 have hPN3_t := (hPN3_7).grl hk8 (n2 (Ne.symm hnePN1_PN3) (Ne.symm hnePN2_PN3))
 have hPN4_t := (hPN4_7).grl hk8 (n2 (Ne.symm hnePN1_PN4) (Ne.symm hnePN2_PN4))
 have hF_t := (hF_7).app hk8 (r2 (.inr hge1) (.inr hge2))
 simp only [Act.put, zs, z0, z1]
 refine s_do (by rfl) ?_
 refine wp_notT rfl rfl ?_
 simp only [Act.put, zs, z0, z1]
 refine sF rfl ?_
 refine wp_pickF (v := .bool false) rfl rfl rfl ?_
 simp only [Act.put, zs, z0, z1]
 refine s_end ?_
 go_upto_region 6 with fail
 refine wp_region_inv (by kernel_rfl) (fun L ac wx =>  ac = ⟨(.int .u8 c :: .bool wd :: .bool so :: .agg (bv a) :: .agg (bv b) :: undef :: undef :: undef :: .pointer (some ⟨PN1, 0, none⟩) :: .pointer (some ⟨PN2, 0, none⟩) :: .pointer (some ⟨PN3, 0, none⟩) :: .pointer (some ⟨PN4, 0, none⟩) :: .bool false :: .int .i64 0 :: .func (.func k) #[] cs :: .int .u8 c :: .bool wd :: .bool so :: .func (.func k) #[] cs :: .func (.func k) #[] cs :: .bool false :: undef :: undef :: .agg (bv a) :: .bool false :: .bool false :: .agg (bv b) :: .bool false :: .bool false :: .bool false :: .func (.func k) #[] cs :: .bool true :: .bool false :: .bool false :: undef :: undef :: sel (L 0) (.agg (bv z.1)) (undef) :: sel (L 1) (.agg (bv (syncM z.1))) (undef) :: sel (L 2) (.agg (bv z.2)) (undef) :: sel (L 3) (.agg (bv (syncM z.2))) (undef) :: undef :: undef :: undef :: undef :: undef :: undef :: undef :: undef :: undef :: undef :: [] : List Value).toArray, []⟩ ∧ GrL [PN3, PN4] wk8 wx ∧ AtA wx PN3 (sel (L 4) (bv (syncM z.1)) (bv zeroM)) 30 ∧ AtA wx PN4 (sel (L 5) (bv (syncM z.2)) (bv zeroM)) 30) (by kernel_rfl) ?h0 ?step ?fin
 case h0 => exact ⟨rfl, GrL.of (Gr.drew (Gr.refl _)), (hPN3_t).drew, (hPN4_t).drew⟩
 case step =>
  refine allOps_cons 0 ?_ ?_
  ·refine kF rfl ?_
   rintro L ac wx hL hd ⟨rfl, hG, APN3, APN4⟩
   have HL := (hpz).grl hG (n2 hnePN1_PN3 hnePN1_PN4)
   refine wp_loadB rfl rfl (HL) ?_
   exact ⟨rfl, hG, APN3, APN4⟩
  refine allOps_cons 1 ?_ ?_
  ·refine kF rfl ?_
   rintro L ac wx hL hd ⟨rfl, hG, APN3, APN4⟩
   obtain ⟨e0, -⟩ := hd
   refine wp_call1 rfl (sel_of (e0 rfl)) (by go_simp) ?_
   refine ((fun w => k_sync2 z.1 rg.1 w) _).mono ?_
   rintro e w1 ⟨rfl, hg⟩
   refine ⟨_, rfl, ?_⟩
   exact ⟨rfl, hG.then hg, APN3.gr hg, APN4.gr hg⟩
  refine allOps_cons 2 ?_ ?_
  ·refine kF rfl ?_
   rintro L ac wx hL hd ⟨rfl, hG, APN3, APN4⟩
   have HL := (hqz).grl hG (n2 hnePN2_PN3 hnePN2_PN4)
   refine wp_loadB rfl rfl (HL) ?_
   exact ⟨rfl, hG, APN3, APN4⟩
  refine allOps_cons 3 ?_ ?_
  ·refine kF rfl ?_
   rintro L ac wx hL hd ⟨rfl, hG, APN3, APN4⟩
   obtain ⟨e0, e1, -⟩ := hd
   refine wp_call1 rfl (sel_of (e0 rfl)) (by go_simp) ?_
   refine ((fun w => k_sync2 z.2 rg.2 w) _).mono ?_
   rintro e w1 ⟨rfl, hg⟩
   refine ⟨_, rfl, ?_⟩
   exact ⟨rfl, hG.then hg, APN3.gr hg, APN4.gr hg⟩
  refine allOps_cons 4 ?_ ?_
  ·refine kF rfl ?_
   rintro L ac wx hL hd ⟨rfl, hG, APN3, APN4⟩
   obtain ⟨e0, e1, e2, e3, e4, e5, -⟩ := hd
   have HL := APN3; rw [hL] at HL
   refine wp_storeB rfl rfl (sel_of (e0 rfl)) HL ?_
   intro w1 hn hgx
   exact ⟨rfl, hG.thenx hgx (.inl m21), hn, APN4.grx hgx (Ne.symm hnePN3_PN4)⟩
  refine allOps_cons 5 ?_ ?_
  ·refine kF rfl ?_
   rintro L ac wx hL hd ⟨rfl, hG, APN3, APN4⟩
   obtain ⟨e0, e1, e2, e3, e4, e5, e6, -⟩ := hd
   have HL := APN4; rw [hL] at HL
   refine wp_storeB rfl rfl (sel_of (e0 rfl)) HL ?_
   intro w1 hn hgx
   exact ⟨rfl, hG.thenx hgx (.inl m22), APN3.grx hgx hnePN3_PN4, hn⟩
  exact allOps_nil 6
 case fin =>
  rintro L ac wf9 hall ⟨rfl, hG9, B9PN3, B9PN4⟩
  have l0 : L 0 = true := hall 0 (by decide)
  have l1 : L 1 = true := hall 1 (by decide)
  have l2 : L 2 = true := hall 2 (by decide)
  have l3 : L 3 = true := hall 3 (by decide)
  have l4 : L 4 = true := hall 4 (by decide)
  have l5 : L 5 = true := hall 5 (by decide)
  rw [l4] at B9PN3
  change AtA wf9 PN3 (bv (syncM z.1)) 30 at B9PN3
  rw [l5] at B9PN4
  change AtA wf9 PN4 (bv (syncM z.2)) 30 at B9PN4
  simp only [l0, l1, l2, l3, sel_t]
  have hPN1_c9 := (hpz).grl hG9 (n2 hnePN1_PN3 hnePN1_PN4)
  have hPN2_c9 := (hqz).grl hG9 (n2 hnePN2_PN3 hnePN2_PN4)
  have hF_c9 := (hF_t).app hG9 (r2 (.inr hge3) (.inr hge4))
  clear l0 l1 l2 l3 l4 l5 hall
  go_upto_region 7 with fail
  refine rG ?_
  refine sF rfl ?_
  refine wp_loadB rfl rfl (B9PN3) ?_
  simp only [Act.put, zs, z0, z1]
  refine sF rfl ?_
  refine wp_call1 rfl rfl (by go_simp) ?_
  refine ((fun w => k_none (syncM z.1) w) _).mono ?_
  rintro e wk10 ⟨he10, hk10⟩
  obtain rfl : e = .returned (.bool false) := he10.trans (by rw [h1])
  clear he10
  refine ⟨_, rfl, ?_⟩
  have hPN1_10 := (hPN1_c9).gr hk10
  have hPN2_10 := (hPN2_c9).gr hk10
  have hPN3_10 := (B9PN3).gr hk10
  have hPN4_10 := (B9PN4).gr hk10
  have hF_10 := (hF_c9).then hk10
  simp only [Act.put, zs, z0, z1]
  refine sF rfl ?_
  refine wM (v := .bool false) rfl rfl ?_
  simp only [Act.put, zs, z0, z1]
  refine s_do (by rfl) ?_
  refine wp_loadB rfl rfl (hPN4_10) ?_
  simp only [Act.put, zs, z0, z1]
  refine s_do (by rfl) ?_
  refine wp_call1 rfl rfl (by go_simp) ?_
  refine ((fun w => k_none (syncM z.2) w) _).mono ?_
  rintro e wk11 ⟨he11, hk11⟩
  obtain rfl : e = .returned (.bool false) := he11.trans (by rw [h2])
  clear he11
  refine ⟨_, rfl, ?_⟩
  have hPN1_11 := (hPN1_10).gr hk11
  have hPN2_11 := (hPN2_10).gr hk11
  have hPN3_11 := (hPN3_10).gr hk11
  have hPN4_11 := (hPN4_10).gr hk11
  have hF_11 := (hF_10).then hk11
  simp only [Act.put, zs, z0, z1]
  refine sF rfl ?_
  refine wp_pickF (v := .bool false) rfl rfl rfl ?_
  simp only [Act.put, zs, z0, z1]
  refine s_end ?_
  go_upto_region 9 with fail
  refine wp_region_inv (by kernel_rfl) (fun L ac wx =>  ac = ⟨(.int .u8 c :: .bool wd :: .bool so :: .agg (bv a) :: .agg (bv b) :: undef :: undef :: undef :: .pointer (some ⟨PN1, 0, none⟩) :: .pointer (some ⟨PN2, 0, none⟩) :: .pointer (some ⟨PN3, 0, none⟩) :: .pointer (some ⟨PN4, 0, none⟩) :: sel (L 4) (.bool true) (.bool false) :: sel (L 5) (.int .i64 0) (.int .i64 0) :: .func (.func k) #[] cs :: .int .u8 c :: .bool wd :: .bool so :: .func (.func k) #[] cs :: .func (.func k) #[] cs :: .bool false :: undef :: undef :: .agg (bv a) :: .bool false :: .bool false :: .agg (bv b) :: .bool false :: .bool false :: .bool false :: .func (.func k) #[] cs :: .bool true :: .bool false :: .bool false :: undef :: undef :: .agg (bv z.1) :: .agg (bv (syncM z.1)) :: .agg (bv z.2) :: .agg (bv (syncM z.2)) :: .agg (bv (syncM z.1)) :: .bool false :: .bool false :: .agg (bv (syncM z.2)) :: .bool false :: .bool false :: undef :: undef :: sel (L 0) (.agg (bv (syncM z.1))) (undef) :: sel (L 1) (.agg (bv (syncM z.2))) (undef) :: [] : List Value).toArray, []⟩ ∧ GrL [PN3, PN4] wk11 wx ∧ AtA wx PN3 (sel (L 2) (bv (syncM z.1)) (bv (syncM z.1))) 30 ∧ AtA wx PN4 (sel (L 3) (bv (syncM z.2)) (bv (syncM z.2))) 30 ∧ (L 2 = true → L 0 = true) ∧ (L 3 = true → L 1 = true)) (by kernel_rfl) ?h0 ?step ?fin
  case h0 => exact ⟨rfl, GrL.of (Gr.drew (Gr.refl _)), (hPN3_11).drew, (hPN4_11).drew, (fun h => by cases h), (fun h => by cases h)⟩
  case step =>
   refine allOps_cons 0 ?_ ?_
   ·refine kF rfl ?_
    rintro L ac wx hL hd ⟨rfl, hG, APN3, APN4, o2_0, o3_1⟩
    have li : L 2 = false := by
     cases h : L 2 with
     | false => rfl
     | true => have := o2_0 h; rw [hL] at this; cases this
    have HL := APN3; rw [li] at HL
    refine wp_loadB rfl rfl (HL) ?_
    exact ⟨rfl, hG, APN3, APN4, fun _ => rfl, o3_1⟩
   refine allOps_cons 1 ?_ ?_
   ·refine kF rfl ?_
    rintro L ac wx hL hd ⟨rfl, hG, APN3, APN4, o2_0, o3_1⟩
    obtain ⟨e0, -⟩ := hd
    have li : L 3 = false := by
     cases h : L 3 with
     | false => rfl
     | true => have := o3_1 h; rw [hL] at this; cases this
    have HL := APN4; rw [li] at HL
    refine wp_loadB rfl rfl (HL) ?_
    exact ⟨rfl, hG, APN3, APN4, o2_0, fun _ => rfl⟩
   refine allOps_cons 2 ?_ ?_
   ·refine kF rfl ?_
    rintro L ac wx hL hd ⟨rfl, hG, APN3, APN4, o2_0, o3_1⟩
    obtain ⟨e0, e1, e2, -⟩ := hd
    have HL := APN3; rw [hL] at HL
    refine wp_storeB rfl rfl (sel_of (e0 rfl)) HL ?_
    intro w1 hn hgx
    exact ⟨rfl, hG.thenx hgx (.inl m21), hn, APN4.grx hgx (Ne.symm hnePN3_PN4), fun _ => e0 rfl, o3_1⟩
   refine allOps_cons 3 ?_ ?_
   ·refine kF rfl ?_
    rintro L ac wx hL hd ⟨rfl, hG, APN3, APN4, o2_0, o3_1⟩
    obtain ⟨e0, e1, e2, e3, e4, -⟩ := hd
    have HL := APN4; rw [hL] at HL
    refine wp_storeB rfl rfl (sel_of (e0 rfl)) HL ?_
    intro w1 hn hgx
    exact ⟨rfl, hG.thenx hgx (.inl m22), APN3.grx hgx hnePN3_PN4, hn, o2_0, fun _ => e0 rfl⟩
   refine allOps_cons 4 ?_ ?_
   ·refine kF rfl ?_
    rintro L ac wx hL hd ⟨rfl, hG, APN3, APN4, o2_0, o3_1⟩
    obtain ⟨e0, e1, e2, e3, e4, -⟩ := hd
    refine wA (v := .bool true) rfl rfl ?_
    exact ⟨rfl, hG, APN3, APN4, o2_0, o3_1⟩
   refine allOps_cons 5 ?_ ?_
   ·refine kF rfl ?_
    rintro L ac wx hL hd ⟨rfl, hG, APN3, APN4, o2_0, o3_1⟩
    obtain ⟨e0, e1, e2, e3, e4, e5, -⟩ := hd
    refine wA (v := .int .i64 0) rfl rfl ?_
    exact ⟨rfl, hG, APN3, APN4, o2_0, o3_1⟩
   exact allOps_nil 6
  case fin =>
   rintro L ac wf12 hall ⟨rfl, hG12, B12PN3, B12PN4, o2_0, o3_1⟩
   have l0 : L 0 = true := hall 0 (by decide)
   have l1 : L 1 = true := hall 1 (by decide)
   have l2 : L 2 = true := hall 2 (by decide)
   have l3 : L 3 = true := hall 3 (by decide)
   have l4 : L 4 = true := hall 4 (by decide)
   have l5 : L 5 = true := hall 5 (by decide)
   rw [l2] at B12PN3
   change AtA wf12 PN3 (bv (syncM z.1)) 30 at B12PN3
   rw [l3] at B12PN4
   change AtA wf12 PN4 (bv (syncM z.2)) 30 at B12PN4
   simp only [l0, l1, l4, l5, sel_t]
   have hPN1_c12 := (hPN1_11).grl hG12 (n2 hnePN1_PN3 hnePN1_PN4)
   have hPN2_c12 := (hPN2_11).grl hG12 (n2 hnePN2_PN3 hnePN2_PN4)
   have hF_c12 := (hF_11).app hG12 (r2 (.inr hge3) (.inr hge4))
   clear l0 l1 l2 l3 l4 l5 hall o2_0 o3_1
   obtain ⟨r0, r1, r2, r3, r4, r5, r6, r7, r8, r9⟩ := cells_bv (B12PN3)
   obtain ⟨t0, t1, t2, t3, t4, t5, t6, t7, t8, t9⟩ := cells_bv (B12PN4)
   go_wp2
   refine bodyPost_ret (by simp [results, Tryz.results29, go_sem, r0, r1, r2, r3, r4, r5, r6, r7, r8, r9, t0, t1, t2, t3, t4, t5, t6, t7, t8, t9]; try rfl) rfl ?_
   exact ⟨rfl, (hF_c12).gr0⟩
theorem k_refine (T : Bd → Bd → Option (Bd × Bd)) (c : Int) (wd so : Bool) (a b : Bd) (ga : Good a) (gb : Good b) (ct : ∀ w, Calls Tryz.prog 81 #[.int .u8 c, .bool wd, .bool so] w fun e w' => ∃ v, e = .returned v ∧ TellV v w w' T ∧ Gr w w') (fr : Fair (T a b) a b) (w : World) : Calls Tryz.prog 29 #[.int .u8 c, .bool wd, .bool so, .agg (bv a), .agg (bv b)] w fun e w' => e = .returned (.tuple #[.agg (bv (rx (refM (T a b)))), .agg (bv (ry (refM (T a b)))), .bool (refM (T a b)).isSome, .int .i64 0]) ∧ Gr w w' := by
 cases hTT : T a b with
 | none => exact ref_n T c wd so a b ga gb ct hTT w
 | some z =>
  have rg := fr.rng z hTT
  show Calls Tryz.prog 29 _ w fun e w' => e = .returned (.tuple #[.agg (bv (rx (if nnB (syncM z.1) || nnB (syncM z.2) then none else some (syncM z.1, syncM z.2)))), .agg (bv (ry (if nnB (syncM z.1) || nnB (syncM z.2) then none else some (syncM z.1, syncM z.2)))), .bool (if nnB (syncM z.1) || nnB (syncM z.2) then none else some (syncM z.1, syncM z.2)).isSome, .int .i64 0]) ∧ Gr w w'
  cases h1 : nnB (syncM z.1) with
  | true => exact ref_s1 T c wd so a b ga gb ct z hTT rg h1 w
  | false =>
   cases h2 : nnB (syncM z.2) with
   | true => exact ref_s2 T c wd so a b ga gb ct z hTT rg h1 h2 w
   | false => exact ref_ss T c wd so a b ga gb ct z hTT rg h1 h2 w
end Go.Proofs.YtcbcijibgpaipaaGreat
