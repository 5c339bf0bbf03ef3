/- Towards the statements of package cond (layer 6): one bound above another one, with a sign. -/
import Derived.Test.YtcbcijibgpaipaaGreatCA
import Derived.Test.YtcbcijibgpaipaaGreatMN
import Derived.Deep.DeepCutAuto
namespace Go.Proofs.YtcbcijibgpaipaaGreat
open Go.ChangeShapes Go.WideShapes Go.ChangeAt Go.RowKit
open Tn (iv)
set_option linter.unusedVariables false
set_option linter.unusedSimpArgs false
set_option maxRecDepth 20000

set_option maxHeartbeats 16000000 in
theorem ordS_t0o (a b : Bd) (p q : Nat) (w : World) (hpq : p ≠ q) (HA : AtA w p (bv a) 30) (HB : AtA w q (bv b) 30) (PW PA : Nat) (npPW : p ≠ PW) (nqPW : q ≠ PW) (npPA : p ≠ PA) (nqPA : q ≠ PA) (nPWPA : PW ≠ PA) (HW : AtA w PW #[.bool true] 4) (HL : AtA w PA (bv anyM) 30) (M1 M2 : Int) (ca : ∀ w, Calls Tryz.prog 281 #[.agg #[.int .i64 a.sl, .int .i64 a.sh], .agg #[.int .i64 b.sl, .int .i64 b.sh], .agg #[.int .i64 anyM.sl, .int .i64 anyM.sh], .int .i64 0] w fun e w' => e = .returned (.tuple #[.int .i64 M1, .int .i64 M2, .bool true]) ∧ Gr w w') : Calls Tryz.prog 279 #[.pointer (some ⟨p, 0, none⟩), .pointer (some ⟨q, 0, none⟩), .int .u8 0, .pointer (some ⟨PW, 0, none⟩), .pointer (some ⟨PA, 0, none⟩)] w fun e w' => e = .returned (.bool true) ∧ AtA w' p (bv { a with sl := M1 }) 30 ∧ AtA w' q (bv { b with sh := M2 }) 30 ∧ GrL [p, q] w w' := by
 go_enter Tryz.func279, Tryz.ntmps279
 go_upto_region 0 with fail
 refine rG ?_
 refine sF rfl ?_
 refine wA (v := .bool false) rfl rfl ?_
 simp only [Act.put, zs, z0, z1]
 refine s_end ?_
 go_upto_region 1 with fail
 refine wp_region_q (C := Gr w) (by kernel_rfl) (by kernel_rfl) (Gr.drew (Gr.refl _)) ?_
 refine q_free rfl ?_
 refine q_move (v := .pointer (some ⟨p, 0, none⟩)) rfl rfl ?_
 simp only [Act.put, zs, z0, z1]
 refine q_free rfl ?_
 refine q_ld_bool (v := .bool true) rfl rfl (fun w h => (HW).gr h) rfl ?_
 simp only [Act.put, zs, z0, z1]
 refine q_free rfl ?_
 refine q_call2 rfl rfl rfl (fun w => by go_simp) (grc (fun w => k_reachOf_t p w) (rfl)) ?_
 simp only [Act.put, zs, z0, z1]
 refine q_free rfl ?_
 refine q_move (v := .pointer (some ⟨q, 0, none⟩)) rfl rfl ?_
 simp only [Act.put, zs, z0, z1]
 refine q_free rfl ?_
 refine q_ld_bool (v := .bool true) rfl rfl (fun w h => (HW).gr h) rfl ?_
 simp only [Act.put, zs, z0, z1]
 refine q_free rfl ?_
 refine q_call2 rfl rfl rfl (fun w => by go_simp) (grc (fun w => k_reachOf_t q w) (rfl)) ?_
 simp only [Act.put, zs, z0, z1]
 refine q_free rfl ?_
 refine q_assign (v := .pointer (some ⟨p, 4, none⟩)) rfl rfl ?_
 simp only [Act.put, zs, z0, z1]
 refine q_free rfl ?_
 refine q_assign (v := .pointer (some ⟨q, 4, none⟩)) rfl rfl ?_
 simp only [Act.put, zs, z0, z1]
 intro wq1 hq1
 have hp_q1 := (HA).gr hq1
 have hq_q1 := (HB).gr hq1
 have hPW_q1 := (HW).gr hq1
 have hPA_q1 := (HL).gr hq1
 have hF_q1 := (GrL.refl [p, q] w).then hq1
 go_upto_region 2 with fail
 refine wp_region_q (C := Gr wq1) (by kernel_rfl) (by kernel_rfl) (Gr.drew (Gr.refl _)) ?_
 refine q_free rfl ?_
 refine q_move (v := .pointer (some ⟨p, 4, none⟩)) rfl rfl ?_
 simp only [Act.put, zs, z0, z1]
 refine q_free rfl ?_
 refine q_nil (r := ⟨p, 4, none⟩) rfl rfl ?_
 simp only [Act.put, zs, z0, z1]
 refine q_free rfl ?_
 refine q_pS (v0 := .int .i64 a.sl) (v1 := .int .i64 a.sh) rfl rfl (fun w h => (hp_q1).gr h) rfl rfl ?_
 simp only [Act.put, zs, z0, z1]
 refine q_free rfl ?_
 refine q_move (v := .pointer (some ⟨q, 4, none⟩)) rfl rfl ?_
 simp only [Act.put, zs, z0, z1]
 refine q_free rfl ?_
 refine q_nil (r := ⟨q, 4, none⟩) rfl rfl ?_
 simp only [Act.put, zs, z0, z1]
 refine q_free rfl ?_
 refine q_pS (v0 := .int .i64 b.sl) (v1 := .int .i64 b.sh) rfl rfl (fun w h => (hq_q1).gr h) rfl rfl ?_
 simp only [Act.put, zs, z0, z1]
 refine q_free rfl ?_
 refine q_ld_bool (v := .bool true) rfl rfl (fun w h => (hPW_q1).gr h) rfl ?_
 simp only [Act.put, zs, z0, z1]
 refine q_free rfl ?_
 refine q_call2 rfl rfl rfl (fun w => by go_simp) (grc (fun w => k_reachOf_t PA w) (rfl)) ?_
 simp only [Act.put, zs, z0, z1]
 refine q_free rfl ?_
 refine q_nil (r := ⟨PA, 4, none⟩) rfl rfl ?_
 simp only [Act.put, zs, z0, z1]
 refine q_free rfl ?_
 refine q_pS (v0 := .int .i64 anyM.sl) (v1 := .int .i64 anyM.sh) rfl rfl (fun w h => (hPA_q1).gr h) rfl rfl ?_
 simp only [Act.put, zs, z0, z1]
 refine q_free rfl ?_
 refine q_move (v := .int .u8 0) rfl rfl ?_
 simp only [Act.put, zs, z0, z1]
 refine q_free rfl ?_
 refine q_cv_i640 rfl rfl ?_
 simp only [Act.put, zs, z0, z1]
 refine q_free rfl ?_
 refine q_call4 rfl rfl rfl rfl rfl (fun w => by go_simp) (grc (ca) (rfl)) ?_
 simp only [Act.put, zs, z0, z1]
 refine q_free rfl ?_
 refine q_move (v := .tuple #[.int .i64 M1, .int .i64 M2, .bool true]) rfl rfl ?_
 simp only [Act.put, zs, z0, z1]
 refine q_free rfl ?_
 refine q_extract (v := .int .i64 M1) rfl rfl rfl ?_
 simp only [Act.put, zs, z0, z1]
 refine q_free rfl ?_
 refine q_extract (v := .int .i64 M2) rfl rfl rfl ?_
 simp only [Act.put, zs, z0, z1]
 refine q_free rfl ?_
 refine q_extract (v := .bool true) rfl rfl rfl ?_
 simp only [Act.put, zs, z0, z1]
 refine q_free rfl ?_
 refine q_assign (v := .int .i64 M1) rfl rfl ?_
 simp only [Act.put, zs, z0, z1]
 refine q_free rfl ?_
 refine q_assign (v := .int .i64 M2) rfl rfl ?_
 simp only [Act.put, zs, z0, z1]
 refine q_free rfl ?_
 refine q_assign (v := .bool true) rfl rfl ?_
 simp only [Act.put, zs, z0, z1]
 intro wq2 hq2
 have hp_q2 := (hp_q1).gr hq2
 have hq_q2 := (hq_q1).gr hq2
 have hPW_q2 := (hPW_q1).gr hq2
 have hPA_q2 := (hPA_q1).gr hq2
 have hF_q2 := (hF_q1).then hq2
 go_upto_region 3 with fail
 refine rG ?_
 refine sF rfl ?_
 refine wM (v := .pointer (some ⟨p, 4, none⟩)) rfl rfl ?_
 simp only [Act.put, zs, z0, z1]
 refine sF rfl ?_
 refine wM (v := .pointer (some ⟨q, 4, none⟩)) rfl rfl ?_
 simp only [Act.put, zs, z0, z1]
 refine sF rfl ?_
 refine wM (v := .int .i64 M1) rfl rfl ?_
 simp only [Act.put, zs, z0, z1]
 refine sF rfl ?_
 refine wM (v := .int .i64 M2) rfl rfl ?_
 simp only [Act.put, zs, z0, z1]
 refine sF rfl ?_
 refine wp_nil (r := ⟨p, 4, none⟩) rfl rfl ?_
 simp only [Act.put, zs, z0, z1]
 refine sF rfl ?_
 refine wp_fS0 rfl rfl ?_
 simp only [Act.put, zs, z0, z1]
 refine sF rfl ?_
 refine wp_c_sl rfl rfl rfl (hp_q2) ?_
 intro ws3 hs3 gx3
 have hq_3 := (hq_q2).grx gx3 (Ne.symm hpq)
 have hPW_3 := (hPW_q2).grx gx3 (Ne.symm npPW)
 have hPA_3 := (hPA_q2).grx gx3 (Ne.symm npPA)
 have hF_3 := (hF_q2).thenx gx3 (.inl m21)
 change AtA ws3 p (bv { a with sl := M1 }) 30 at hs3
 simp only [Act.put, zs, z0, z1]
 refine sF rfl ?_
 refine wp_nil (r := ⟨q, 4, none⟩) rfl rfl ?_
 simp only [Act.put, zs, z0, z1]
 refine sF rfl ?_
 refine wp_fS1 rfl rfl ?_
 simp only [Act.put, zs, z0, z1]
 refine sF rfl ?_
 refine wp_c_sh rfl rfl rfl (hq_3) ?_
 intro ws4 hs4 gx4
 have hp_4 := (hs3).grx gx4 hpq
 have hPW_4 := (hPW_3).grx gx4 (Ne.symm nqPW)
 have hPA_4 := (hPA_3).grx gx4 (Ne.symm nqPA)
 have hF_4 := (hF_3).thenx gx4 (.inl m22)
 change AtA ws4 q (bv { b with sh := M2 }) 30 at hs4
 simp only [Act.put, zs, z0, z1]
 refine s_end ?_
 go_upto_region 4 with fail
 refine rG ?_
 refine sF rfl ?_
 refine wM (v := .bool true) rfl rfl ?_
 simp only [Act.put, zs, z0, z1]
 refine sF rfl ?_
 refine wA (v := .bool true) rfl rfl ?_
 simp only [Act.put, zs, z0, z1]
 refine s_end ?_
 go_wp2
 go_ret
 exact ⟨rfl, hp_4, hs4, hF_4⟩
set_option maxHeartbeats 16000000 in
theorem ordS_t1o (a b : Bd) (p q : Nat) (w : World) (hpq : p ≠ q) (HA : AtA w p (bv a) 30) (HB : AtA w q (bv b) 30) (PW PA : Nat) (npPW : p ≠ PW) (nqPW : q ≠ PW) (npPA : p ≠ PA) (nqPA : q ≠ PA) (nPWPA : PW ≠ PA) (HW : AtA w PW #[.bool true] 4) (HL : AtA w PA (bv anyM) 30) (M1 M2 : Int) (ca : ∀ w, Calls Tryz.prog 281 #[.agg #[.int .i64 a.sl, .int .i64 a.sh], .agg #[.int .i64 b.sl, .int .i64 b.sh], .agg #[.int .i64 anyM.sl, .int .i64 anyM.sh], .int .i64 1] w fun e w' => e = .returned (.tuple #[.int .i64 M1, .int .i64 M2, .bool true]) ∧ Gr w w') : Calls Tryz.prog 279 #[.pointer (some ⟨p, 0, none⟩), .pointer (some ⟨q, 0, none⟩), .int .u8 1, .pointer (some ⟨PW, 0, none⟩), .pointer (some ⟨PA, 0, none⟩)] w fun e w' => e = .returned (.bool true) ∧ AtA w' p (bv { a with sl := M1 }) 30 ∧ AtA w' q (bv { b with sh := M2 }) 30 ∧ GrL [p, q] w w' := by
 go_enter Tryz.func279, Tryz.ntmps279
 go_upto_region 0 with fail
 refine rG ?_
 refine sF rfl ?_
 refine wA (v := .bool false) rfl rfl ?_
 simp only [Act.put, zs, z0, z1]
 refine s_end ?_
 go_upto_region 1 with fail
 refine wp_region_q (C := Gr w) (by kernel_rfl) (by kernel_rfl) (Gr.drew (Gr.refl _)) ?_
 refine q_free rfl ?_
 refine q_move (v := .pointer (some ⟨p, 0, none⟩)) rfl rfl ?_
 simp only [Act.put, zs, z0, z1]
 refine q_free rfl ?_
 refine q_ld_bool (v := .bool true) rfl rfl (fun w h => (HW).gr h) rfl ?_
 simp only [Act.put, zs, z0, z1]
 refine q_free rfl ?_
 refine q_call2 rfl rfl rfl (fun w => by go_simp) (grc (fun w => k_reachOf_t p w) (rfl)) ?_
 simp only [Act.put, zs, z0, z1]
 refine q_free rfl ?_
 refine q_move (v := .pointer (some ⟨q, 0, none⟩)) rfl rfl ?_
 simp only [Act.put, zs, z0, z1]
 refine q_free rfl ?_
 refine q_ld_bool (v := .bool true) rfl rfl (fun w h => (HW).gr h) rfl ?_
 simp only [Act.put, zs, z0, z1]
 refine q_free rfl ?_
 refine q_call2 rfl rfl rfl (fun w => by go_simp) (grc (fun w => k_reachOf_t q w) (rfl)) ?_
 simp only [Act.put, zs, z0, z1]
 refine q_free rfl ?_
 refine q_assign (v := .pointer (some ⟨p, 4, none⟩)) rfl rfl ?_
 simp only [Act.put, zs, z0, z1]
 refine q_free rfl ?_
 refine q_assign (v := .pointer (some ⟨q, 4, none⟩)) rfl rfl ?_
 simp only [Act.put, zs, z0, z1]
 intro wq1 hq1
 have hp_q1 := (HA).gr hq1
 have hq_q1 := (HB).gr hq1
 have hPW_q1 := (HW).gr hq1
 have hPA_q1 := (HL).gr hq1
 have hF_q1 := (GrL.refl [p, q] w).then hq1
 go_upto_region 2 with fail
 refine wp_region_q (C := Gr wq1) (by kernel_rfl) (by kernel_rfl) (Gr.drew (Gr.refl _)) ?_
 refine q_free rfl ?_
 refine q_move (v := .pointer (some ⟨p, 4, none⟩)) rfl rfl ?_
 simp only [Act.put, zs, z0, z1]
 refine q_free rfl ?_
 refine q_nil (r := ⟨p, 4, none⟩) rfl rfl ?_
 simp only [Act.put, zs, z0, z1]
 refine q_free rfl ?_
 refine q_pS (v0 := .int .i64 a.sl) (v1 := .int .i64 a.sh) rfl rfl (fun w h => (hp_q1).gr h) rfl rfl ?_
 simp only [Act.put, zs, z0, z1]
 refine q_free rfl ?_
 refine q_move (v := .pointer (some ⟨q, 4, none⟩)) rfl rfl ?_
 simp only [Act.put, zs, z0, z1]
 refine q_free rfl ?_
 refine q_nil (r := ⟨q, 4, none⟩) rfl rfl ?_
 simp only [Act.put, zs, z0, z1]
 refine q_free rfl ?_
 refine q_pS (v0 := .int .i64 b.sl) (v1 := .int .i64 b.sh) rfl rfl (fun w h => (hq_q1).gr h) rfl rfl ?_
 simp only [Act.put, zs, z0, z1]
 refine q_free rfl ?_
 refine q_ld_bool (v := .bool true) rfl rfl (fun w h => (hPW_q1).gr h) rfl ?_
 simp only [Act.put, zs, z0, z1]
 refine q_free rfl ?_
 refine q_call2 rfl rfl rfl (fun w => by go_simp) (grc (fun w => k_reachOf_t PA w) (rfl)) ?_
 simp only [Act.put, zs, z0, z1]
 refine q_free rfl ?_
 refine q_nil (r := ⟨PA, 4, none⟩) rfl rfl ?_
 simp only [Act.put, zs, z0, z1]
 refine q_free rfl ?_
 refine q_pS (v0 := .int .i64 anyM.sl) (v1 := .int .i64 anyM.sh) rfl rfl (fun w h => (hPA_q1).gr h) rfl rfl ?_
 simp only [Act.put, zs, z0, z1]
 refine q_free rfl ?_
 refine q_move (v := .int .u8 1) rfl rfl ?_
 simp only [Act.put, zs, z0, z1]
 refine q_free rfl ?_
 refine q_cv_i641 rfl rfl ?_
 simp only [Act.put, zs, z0, z1]
 refine q_free rfl ?_
 refine q_call4 rfl rfl rfl rfl rfl (fun w => by go_simp) (grc (ca) (rfl)) ?_
 simp only [Act.put, zs, z0, z1]
 refine q_free rfl ?_
 refine q_move (v := .tuple #[.int .i64 M1, .int .i64 M2, .bool true]) rfl rfl ?_
 simp only [Act.put, zs, z0, z1]
 refine q_free rfl ?_
 refine q_extract (v := .int .i64 M1) rfl rfl rfl ?_
 simp only [Act.put, zs, z0, z1]
 refine q_free rfl ?_
 refine q_extract (v := .int .i64 M2) rfl rfl rfl ?_
 simp only [Act.put, zs, z0, z1]
 refine q_free rfl ?_
 refine q_extract (v := .bool true) rfl rfl rfl ?_
 simp only [Act.put, zs, z0, z1]
 refine q_free rfl ?_
 refine q_assign (v := .int .i64 M1) rfl rfl ?_
 simp only [Act.put, zs, z0, z1]
 refine q_free rfl ?_
 refine q_assign (v := .int .i64 M2) rfl rfl ?_
 simp only [Act.put, zs, z0, z1]
 refine q_free rfl ?_
 refine q_assign (v := .bool true) rfl rfl ?_
 simp only [Act.put, zs, z0, z1]
 intro wq2 hq2
 have hp_q2 := (hp_q1).gr hq2
 have hq_q2 := (hq_q1).gr hq2
 have hPW_q2 := (hPW_q1).gr hq2
 have hPA_q2 := (hPA_q1).gr hq2
 have hF_q2 := (hF_q1).then hq2
 go_upto_region 3 with fail
 refine rG ?_
 refine sF rfl ?_
 refine wM (v := .pointer (some ⟨p, 4, none⟩)) rfl rfl ?_
 simp only [Act.put, zs, z0, z1]
 refine sF rfl ?_
 refine wM (v := .pointer (some ⟨q, 4, none⟩)) rfl rfl ?_
 simp only [Act.put, zs, z0, z1]
 refine sF rfl ?_
 refine wM (v := .int .i64 M1) rfl rfl ?_
 simp only [Act.put, zs, z0, z1]
 refine sF rfl ?_
 refine wM (v := .int .i64 M2) rfl rfl ?_
 simp only [Act.put, zs, z0, z1]
 refine sF rfl ?_
 refine wp_nil (r := ⟨p, 4, none⟩) rfl rfl ?_
 simp only [Act.put, zs, z0, z1]
 refine sF rfl ?_
 refine wp_fS0 rfl rfl ?_
 simp only [Act.put, zs, z0, z1]
 refine sF rfl ?_
 refine wp_c_sl rfl rfl rfl (hp_q2) ?_
 intro ws3 hs3 gx3
 have hq_3 := (hq_q2).grx gx3 (Ne.symm hpq)
 have hPW_3 := (hPW_q2).grx gx3 (Ne.symm npPW)
 have hPA_3 := (hPA_q2).grx gx3 (Ne.symm npPA)
 have hF_3 := (hF_q2).thenx gx3 (.inl m21)
 change AtA ws3 p (bv { a with sl := M1 }) 30 at hs3
 simp only [Act.put, zs, z0, z1]
 refine sF rfl ?_
 refine wp_nil (r := ⟨q, 4, none⟩) rfl rfl ?_
 simp only [Act.put, zs, z0, z1]
 refine sF rfl ?_
 refine wp_fS1 rfl rfl ?_
 simp only [Act.put, zs, z0, z1]
 refine sF rfl ?_
 refine wp_c_sh rfl rfl rfl (hq_3) ?_
 intro ws4 hs4 gx4
 have hp_4 := (hs3).grx gx4 hpq
 have hPW_4 := (hPW_3).grx gx4 (Ne.symm nqPW)
 have hPA_4 := (hPA_3).grx gx4 (Ne.symm nqPA)
 have hF_4 := (hF_3).thenx gx4 (.inl m22)
 change AtA ws4 q (bv { b with sh := M2 }) 30 at hs4
 simp only [Act.put, zs, z0, z1]
 refine s_end ?_
 go_upto_region 4 with fail
 refine rG ?_
 refine sF rfl ?_
 refine wM (v := .bool true) rfl rfl ?_
 simp only [Act.put, zs, z0, z1]
 refine sF rfl ?_
 refine wA (v := .bool true) rfl rfl ?_
 simp only [Act.put, zs, z0, z1]
 refine s_end ?_
 go_wp2
 go_ret
 exact ⟨rfl, hp_4, hs4, hF_4⟩
set_option maxHeartbeats 16000000 in
theorem ordS_t1n (a b : Bd) (p q : Nat) (w : World) (hpq : p ≠ q) (HA : AtA w p (bv a) 30) (HB : AtA w q (bv b) 30) (PW PA : Nat) (npPW : p ≠ PW) (nqPW : q ≠ PW) (npPA : p ≠ PA) (nqPA : q ≠ PA) (nPWPA : PW ≠ PA) (HW : AtA w PW #[.bool true] 4) (HL : AtA w PA (bv anyM) 30) (M1 M2 : Int) (ca : ∀ w, Calls Tryz.prog 281 #[.agg #[.int .i64 a.sl, .int .i64 a.sh], .agg #[.int .i64 b.sl, .int .i64 b.sh], .agg #[.int .i64 anyM.sl, .int .i64 anyM.sh], .int .i64 1] w fun e w' => e = .returned (.tuple #[.int .i64 M1, .int .i64 M2, .bool false]) ∧ Gr w w') : Calls Tryz.prog 279 #[.pointer (some ⟨p, 0, none⟩), .pointer (some ⟨q, 0, none⟩), .int .u8 1, .pointer (some ⟨PW, 0, none⟩), .pointer (some ⟨PA, 0, none⟩)] w fun e w' => e = .returned (.bool false) ∧ GrL [p, q] w w' := by
 go_enter Tryz.func279, Tryz.ntmps279
 go_upto_region 0 with fail
 refine rG ?_
 refine sF rfl ?_
 refine wA (v := .bool false) rfl rfl ?_
 simp only [Act.put, zs, z0, z1]
 refine s_end ?_
 go_upto_region 1 with fail
 refine wp_region_q (C := Gr w) (by kernel_rfl) (by kernel_rfl) (Gr.drew (Gr.refl _)) ?_
 refine q_free rfl ?_
 refine q_move (v := .pointer (some ⟨p, 0, none⟩)) rfl rfl ?_
 simp only [Act.put, zs, z0, z1]
 refine q_free rfl ?_
 refine q_ld_bool (v := .bool true) rfl rfl (fun w h => (HW).gr h) rfl ?_
 simp only [Act.put, zs, z0, z1]
 refine q_free rfl ?_
 refine q_call2 rfl rfl rfl (fun w => by go_simp) (grc (fun w => k_reachOf_t p w) (rfl)) ?_
 simp only [Act.put, zs, z0, z1]
 refine q_free rfl ?_
 refine q_move (v := .pointer (some ⟨q, 0, none⟩)) rfl rfl ?_
 simp only [Act.put, zs, z0, z1]
 refine q_free rfl ?_
 refine q_ld_bool (v := .bool true) rfl rfl (fun w h => (HW).gr h) rfl ?_
 simp only [Act.put, zs, z0, z1]
 refine q_free rfl ?_
 refine q_call2 rfl rfl rfl (fun w => by go_simp) (grc (fun w => k_reachOf_t q w) (rfl)) ?_
 simp only [Act.put, zs, z0, z1]
 refine q_free rfl ?_
 refine q_assign (v := .pointer (some ⟨p, 4, none⟩)) rfl rfl ?_
 simp only [Act.put, zs, z0, z1]
 refine q_free rfl ?_
 refine q_assign (v := .pointer (some ⟨q, 4, none⟩)) rfl rfl ?_
 simp only [Act.put, zs, z0, z1]
 intro wq1 hq1
 have hp_q1 := (HA).gr hq1
 have hq_q1 := (HB).gr hq1
 have hPW_q1 := (HW).gr hq1
 have hPA_q1 := (HL).gr hq1
 have hF_q1 := (GrL.refl [p, q] w).then hq1
 go_upto_region 2 with fail
 refine wp_region_q (C := Gr wq1) (by kernel_rfl) (by kernel_rfl) (Gr.drew (Gr.refl _)) ?_
 refine q_free rfl ?_
 refine q_move (v := .pointer (some ⟨p, 4, none⟩)) rfl rfl ?_
 simp only [Act.put, zs, z0, z1]
 refine q_free rfl ?_
 refine q_nil (r := ⟨p, 4, none⟩) rfl rfl ?_
 simp only [Act.put, zs, z0, z1]
 refine q_free rfl ?_
 refine q_pS (v0 := .int .i64 a.sl) (v1 := .int .i64 a.sh) rfl rfl (fun w h => (hp_q1).gr h) rfl rfl ?_
 simp only [Act.put, zs, z0, z1]
 refine q_free rfl ?_
 refine q_move (v := .pointer (some ⟨q, 4, none⟩)) rfl rfl ?_
 simp only [Act.put, zs, z0, z1]
 refine q_free rfl ?_
 refine q_nil (r := ⟨q, 4, none⟩) rfl rfl ?_
 simp only [Act.put, zs, z0, z1]
 refine q_free rfl ?_
 refine q_pS (v0 := .int .i64 b.sl) (v1 := .int .i64 b.sh) rfl rfl (fun w h => (hq_q1).gr h) rfl rfl ?_
 simp only [Act.put, zs, z0, z1]
 refine q_free rfl ?_
 refine q_ld_bool (v := .bool true) rfl rfl (fun w h => (hPW_q1).gr h) rfl ?_
 simp only [Act.put, zs, z0, z1]
 refine q_free rfl ?_
 refine q_call2 rfl rfl rfl (fun w => by go_simp) (grc (fun w => k_reachOf_t PA w) (rfl)) ?_
 simp only [Act.put, zs, z0, z1]
 refine q_free rfl ?_
 refine q_nil (r := ⟨PA, 4, none⟩) rfl rfl ?_
 simp only [Act.put, zs, z0, z1]
 refine q_free rfl ?_
 refine q_pS (v0 := .int .i64 anyM.sl) (v1 := .int .i64 anyM.sh) rfl rfl (fun w h => (hPA_q1).gr h) rfl rfl ?_
 simp only [Act.put, zs, z0, z1]
 refine q_free rfl ?_
 refine q_move (v := .int .u8 1) rfl rfl ?_
 simp only [Act.put, zs, z0, z1]
 refine q_free rfl ?_
 refine q_cv_i641 rfl rfl ?_
 simp only [Act.put, zs, z0, z1]
 refine q_free rfl ?_
 refine q_call4 rfl rfl rfl rfl rfl (fun w => by go_simp) (grc (ca) (rfl)) ?_
 simp only [Act.put, zs, z0, z1]
 refine q_free rfl ?_
 refine q_move (v := .tuple #[.int .i64 M1, .int .i64 M2, .bool false]) rfl rfl ?_
 simp only [Act.put, zs, z0, z1]
 refine q_free rfl ?_
 refine q_extract (v := .int .i64 M1) rfl rfl rfl ?_
 simp only [Act.put, zs, z0, z1]
 refine q_free rfl ?_
 refine q_extract (v := .int .i64 M2) rfl rfl rfl ?_
 simp only [Act.put, zs, z0, z1]
 refine q_free rfl ?_
 refine q_extract (v := .bool false) rfl rfl rfl ?_
 simp only [Act.put, zs, z0, z1]
 refine q_free rfl ?_
 refine q_assign (v := .int .i64 M1) rfl rfl ?_
 simp only [Act.put, zs, z0, z1]
 refine q_free rfl ?_
 refine q_assign (v := .int .i64 M2) rfl rfl ?_
 simp only [Act.put, zs, z0, z1]
 refine q_free rfl ?_
 refine q_assign (v := .bool false) rfl rfl ?_
 simp only [Act.put, zs, z0, z1]
 intro wq2 hq2
 have hp_q2 := (hp_q1).gr hq2
 have hq_q2 := (hq_q1).gr hq2
 have hPW_q2 := (hPW_q1).gr hq2
 have hPA_q2 := (hPA_q1).gr hq2
 have hF_q2 := (hF_q1).then hq2
 go_upto_region 3 with fail
 refine rG ?_
 refine sF rfl ?_
 refine wM (v := .pointer (some ⟨p, 4, none⟩)) rfl rfl ?_
 simp only [Act.put, zs, z0, z1]
 refine sF rfl ?_
 refine wM (v := .pointer (some ⟨q, 4, none⟩)) rfl rfl ?_
 simp only [Act.put, zs, z0, z1]
 refine sF rfl ?_
 refine wM (v := .int .i64 M1) rfl rfl ?_
 simp only [Act.put, zs, z0, z1]
 refine sF rfl ?_
 refine wM (v := .int .i64 M2) rfl rfl ?_
 simp only [Act.put, zs, z0, z1]
 refine sF rfl ?_
 refine wp_nil (r := ⟨p, 4, none⟩) rfl rfl ?_
 simp only [Act.put, zs, z0, z1]
 refine sF rfl ?_
 refine wp_fS0 rfl rfl ?_
 simp only [Act.put, zs, z0, z1]
 refine sF rfl ?_
 refine wp_c_sl rfl rfl rfl (hp_q2) ?_
 intro ws3 hs3 gx3
 have hq_3 := (hq_q2).grx gx3 (Ne.symm hpq)
 have hPW_3 := (hPW_q2).grx gx3 (Ne.symm npPW)
 have hPA_3 := (hPA_q2).grx gx3 (Ne.symm npPA)
 have hF_3 := (hF_q2).thenx gx3 (.inl m21)
 change AtA ws3 p (bv { a with sl := M1 }) 30 at hs3
 simp only [Act.put, zs, z0, z1]
 refine sF rfl ?_
 refine wp_nil (r := ⟨q, 4, none⟩) rfl rfl ?_
 simp only [Act.put, zs, z0, z1]
 refine sF rfl ?_
 refine wp_fS1 rfl rfl ?_
 simp only [Act.put, zs, z0, z1]
 refine sF rfl ?_
 refine wp_c_sh rfl rfl rfl (hq_3) ?_
 intro ws4 hs4 gx4
 have hp_4 := (hs3).grx gx4 hpq
 have hPW_4 := (hPW_3).grx gx4 (Ne.symm nqPW)
 have hPA_4 := (hPA_3).grx gx4 (Ne.symm nqPA)
 have hF_4 := (hF_3).thenx gx4 (.inl m22)
 change AtA ws4 q (bv { b with sh := M2 }) 30 at hs4
 simp only [Act.put, zs, z0, z1]
 refine s_end ?_
 go_upto_region 4 with fail
 refine rG ?_
 refine sF rfl ?_
 refine wM (v := .bool false) rfl rfl ?_
 simp only [Act.put, zs, z0, z1]
 refine sF rfl ?_
 refine wA (v := .bool false) rfl rfl ?_
 simp only [Act.put, zs, z0, z1]
 refine s_end ?_
 go_wp2
 go_ret
 exact ⟨rfl, hF_4⟩
set_option maxHeartbeats 16000000 in
theorem ordS_f0o (a b : Bd) (p q : Nat) (w : World) (hpq : p ≠ q) (HA : AtA w p (bv a) 30) (HB : AtA w q (bv b) 30) (PW PA : Nat) (npPW : p ≠ PW) (nqPW : q ≠ PW) (npPA : p ≠ PA) (nqPA : q ≠ PA) (nPWPA : PW ≠ PA) (HW : AtA w PW #[.bool false] 4) (HL : AtA w PA (bv anyM) 30) (M1 M2 : Int) (ca : ∀ w, Calls Tryz.prog 281 #[.agg #[.int .i64 a.vl, .int .i64 a.vh], .agg #[.int .i64 b.vl, .int .i64 b.vh], .agg #[.int .i64 anyM.vl, .int .i64 anyM.vh], .int .i64 0] w fun e w' => e = .returned (.tuple #[.int .i64 M1, .int .i64 M2, .bool true]) ∧ Gr w w') : Calls Tryz.prog 279 #[.pointer (some ⟨p, 0, none⟩), .pointer (some ⟨q, 0, none⟩), .int .u8 0, .pointer (some ⟨PW, 0, none⟩), .pointer (some ⟨PA, 0, none⟩)] w fun e w' => e = .returned (.bool true) ∧ AtA w' p (bv { a with vl := M1 }) 30 ∧ AtA w' q (bv { b with vh := M2 }) 30 ∧ GrL [p, q] w w' := by
 go_enter Tryz.func279, Tryz.ntmps279
 go_upto_region 0 with fail
 refine rG ?_
 refine sF rfl ?_
 refine wA (v := .bool false) rfl rfl ?_
 simp only [Act.put, zs, z0, z1]
 refine s_end ?_
 go_upto_region 1 with fail
 refine wp_region_q (C := Gr w) (by kernel_rfl) (by kernel_rfl) (Gr.drew (Gr.refl _)) ?_
 refine q_free rfl ?_
 refine q_move (v := .pointer (some ⟨p, 0, none⟩)) rfl rfl ?_
 simp only [Act.put, zs, z0, z1]
 refine q_free rfl ?_
 refine q_ld_bool (v := .bool false) rfl rfl (fun w h => (HW).gr h) rfl ?_
 simp only [Act.put, zs, z0, z1]
 refine q_free rfl ?_
 refine q_call2 rfl rfl rfl (fun w => by go_simp) (grc (fun w => k_reachOf_f p w) (rfl)) ?_
 simp only [Act.put, zs, z0, z1]
 refine q_free rfl ?_
 refine q_move (v := .pointer (some ⟨q, 0, none⟩)) rfl rfl ?_
 simp only [Act.put, zs, z0, z1]
 refine q_free rfl ?_
 refine q_ld_bool (v := .bool false) rfl rfl (fun w h => (HW).gr h) rfl ?_
 simp only [Act.put, zs, z0, z1]
 refine q_free rfl ?_
 refine q_call2 rfl rfl rfl (fun w => by go_simp) (grc (fun w => k_reachOf_f q w) (rfl)) ?_
 simp only [Act.put, zs, z0, z1]
 refine q_free rfl ?_
 refine q_assign (v := .pointer (some ⟨p, 8, none⟩)) rfl rfl ?_
 simp only [Act.put, zs, z0, z1]
 refine q_free rfl ?_
 refine q_assign (v := .pointer (some ⟨q, 8, none⟩)) rfl rfl ?_
 simp only [Act.put, zs, z0, z1]
 intro wq1 hq1
 have hp_q1 := (HA).gr hq1
 have hq_q1 := (HB).gr hq1
 have hPW_q1 := (HW).gr hq1
 have hPA_q1 := (HL).gr hq1
 have hF_q1 := (GrL.refl [p, q] w).then hq1
 go_upto_region 2 with fail
 refine wp_region_q (C := Gr wq1) (by kernel_rfl) (by kernel_rfl) (Gr.drew (Gr.refl _)) ?_
 refine q_free rfl ?_
 refine q_move (v := .pointer (some ⟨p, 8, none⟩)) rfl rfl ?_
 simp only [Act.put, zs, z0, z1]
 refine q_free rfl ?_
 refine q_nil (r := ⟨p, 8, none⟩) rfl rfl ?_
 simp only [Act.put, zs, z0, z1]
 refine q_free rfl ?_
 refine q_pS (v0 := .int .i64 a.vl) (v1 := .int .i64 a.vh) rfl rfl (fun w h => (hp_q1).gr h) rfl rfl ?_
 simp only [Act.put, zs, z0, z1]
 refine q_free rfl ?_
 refine q_move (v := .pointer (some ⟨q, 8, none⟩)) rfl rfl ?_
 simp only [Act.put, zs, z0, z1]
 refine q_free rfl ?_
 refine q_nil (r := ⟨q, 8, none⟩) rfl rfl ?_
 simp only [Act.put, zs, z0, z1]
 refine q_free rfl ?_
 refine q_pS (v0 := .int .i64 b.vl) (v1 := .int .i64 b.vh) rfl rfl (fun w h => (hq_q1).gr h) rfl rfl ?_
 simp only [Act.put, zs, z0, z1]
 refine q_free rfl ?_
 refine q_ld_bool (v := .bool false) rfl rfl (fun w h => (hPW_q1).gr h) rfl ?_
 simp only [Act.put, zs, z0, z1]
 refine q_free rfl ?_
 refine q_call2 rfl rfl rfl (fun w => by go_simp) (grc (fun w => k_reachOf_f PA w) (rfl)) ?_
 simp only [Act.put, zs, z0, z1]
 refine q_free rfl ?_
 refine q_nil (r := ⟨PA, 8, none⟩) rfl rfl ?_
 simp only [Act.put, zs, z0, z1]
 refine q_free rfl ?_
 refine q_pS (v0 := .int .i64 anyM.vl) (v1 := .int .i64 anyM.vh) rfl rfl (fun w h => (hPA_q1).gr h) rfl rfl ?_
 simp only [Act.put, zs, z0, z1]
 refine q_free rfl ?_
 refine q_move (v := .int .u8 0) rfl rfl ?_
 simp only [Act.put, zs, z0, z1]
 refine q_free rfl ?_
 refine q_cv_i640 rfl rfl ?_
 simp only [Act.put, zs, z0, z1]
 refine q_free rfl ?_
 refine q_call4 rfl rfl rfl rfl rfl (fun w => by go_simp) (grc (ca) (rfl)) ?_
 simp only [Act.put, zs, z0, z1]
 refine q_free rfl ?_
 refine q_move (v := .tuple #[.int .i64 M1, .int .i64 M2, .bool true]) rfl rfl ?_
 simp only [Act.put, zs, z0, z1]
 refine q_free rfl ?_
 refine q_extract (v := .int .i64 M1) rfl rfl rfl ?_
 simp only [Act.put, zs, z0, z1]
 refine q_free rfl ?_
 refine q_extract (v := .int .i64 M2) rfl rfl rfl ?_
 simp only [Act.put, zs, z0, z1]
 refine q_free rfl ?_
 refine q_extract (v := .bool true) rfl rfl rfl ?_
 simp only [Act.put, zs, z0, z1]
 refine q_free rfl ?_
 refine q_assign (v := .int .i64 M1) rfl rfl ?_
 simp only [Act.put, zs, z0, z1]
 refine q_free rfl ?_
 refine q_assign (v := .int .i64 M2) rfl rfl ?_
 simp only [Act.put, zs, z0, z1]
 refine q_free rfl ?_
 refine q_assign (v := .bool true) rfl rfl ?_
 simp only [Act.put, zs, z0, z1]
 intro wq2 hq2
 have hp_q2 := (hp_q1).gr hq2
 have hq_q2 := (hq_q1).gr hq2
 have hPW_q2 := (hPW_q1).gr hq2
 have hPA_q2 := (hPA_q1).gr hq2
 have hF_q2 := (hF_q1).then hq2
 go_upto_region 3 with fail
 refine rG ?_
 refine sF rfl ?_
 refine wM (v := .pointer (some ⟨p, 8, none⟩)) rfl rfl ?_
 simp only [Act.put, zs, z0, z1]
 refine sF rfl ?_
 refine wM (v := .pointer (some ⟨q, 8, none⟩)) rfl rfl ?_
 simp only [Act.put, zs, z0, z1]
 refine sF rfl ?_
 refine wM (v := .int .i64 M1) rfl rfl ?_
 simp only [Act.put, zs, z0, z1]
 refine sF rfl ?_
 refine wM (v := .int .i64 M2) rfl rfl ?_
 simp only [Act.put, zs, z0, z1]
 refine sF rfl ?_
 refine wp_nil (r := ⟨p, 8, none⟩) rfl rfl ?_
 simp only [Act.put, zs, z0, z1]
 refine sF rfl ?_
 refine wp_fS0 rfl rfl ?_
 simp only [Act.put, zs, z0, z1]
 refine sF rfl ?_
 refine wp_c_vl rfl rfl rfl (hp_q2) ?_
 intro ws3 hs3 gx3
 have hq_3 := (hq_q2).grx gx3 (Ne.symm hpq)
 have hPW_3 := (hPW_q2).grx gx3 (Ne.symm npPW)
 have hPA_3 := (hPA_q2).grx gx3 (Ne.symm npPA)
 have hF_3 := (hF_q2).thenx gx3 (.inl m21)
 change AtA ws3 p (bv { a with vl := M1 }) 30 at hs3
 simp only [Act.put, zs, z0, z1]
 refine sF rfl ?_
 refine wp_nil (r := ⟨q, 8, none⟩) rfl rfl ?_
 simp only [Act.put, zs, z0, z1]
 refine sF rfl ?_
 refine wp_fS1 rfl rfl ?_
 simp only [Act.put, zs, z0, z1]
 refine sF rfl ?_
 refine wp_c_vh rfl rfl rfl (hq_3) ?_
 intro ws4 hs4 gx4
 have hp_4 := (hs3).grx gx4 hpq
 have hPW_4 := (hPW_3).grx gx4 (Ne.symm nqPW)
 have hPA_4 := (hPA_3).grx gx4 (Ne.symm nqPA)
 have hF_4 := (hF_3).thenx gx4 (.inl m22)
 change AtA ws4 q (bv { b with vh := M2 }) 30 at hs4
 simp only [Act.put, zs, z0, z1]
 refine s_end ?_
 go_upto_region 4 with fail
 refine rG ?_
 refine sF rfl ?_
 refine wM (v := .bool true) rfl rfl ?_
 simp only [Act.put, zs, z0, z1]
 refine sF rfl ?_
 refine wA (v := .bool true) rfl rfl ?_
 simp only [Act.put, zs, z0, z1]
 refine s_end ?_
 go_wp2
 go_ret
 exact ⟨rfl, hp_4, hs4, hF_4⟩
set_option maxHeartbeats 16000000 in
theorem ordS_f1o (a b : Bd) (p q : Nat) (w : World) (hpq : p ≠ q) (HA : AtA w p (bv a) 30) (HB : AtA w q (bv b) 30) (PW PA : Nat) (npPW : p ≠ PW) (nqPW : q ≠ PW) (npPA : p ≠ PA) (nqPA : q ≠ PA) (nPWPA : PW ≠ PA) (HW : AtA w PW #[.bool false] 4) (HL : AtA w PA (bv anyM) 30) (M1 M2 : Int) (ca : ∀ w, Calls Tryz.prog 281 #[.agg #[.int .i64 a.vl, .int .i64 a.vh], .agg #[.int .i64 b.vl, .int .i64 b.vh], .agg #[.int .i64 anyM.vl, .int .i64 anyM.vh], .int .i64 1] w fun e w' => e = .returned (.tuple #[.int .i64 M1, .int .i64 M2, .bool true]) ∧ Gr w w') : Calls Tryz.prog 279 #[.pointer (some ⟨p, 0, none⟩), .pointer (some ⟨q, 0, none⟩), .int .u8 1, .pointer (some ⟨PW, 0, none⟩), .pointer (some ⟨PA, 0, none⟩)] w fun e w' => e = .returned (.bool true) ∧ AtA w' p (bv { a with vl := M1 }) 30 ∧ AtA w' q (bv { b with vh := M2 }) 30 ∧ GrL [p, q] w w' := by
 go_enter Tryz.func279, Tryz.ntmps279
 go_upto_region 0 with fail
 refine rG ?_
 refine sF rfl ?_
 refine wA (v := .bool false) rfl rfl ?_
 simp only [Act.put, zs, z0, z1]
 refine s_end ?_
 go_upto_region 1 with fail
 refine wp_region_q (C := Gr w) (by kernel_rfl) (by kernel_rfl) (Gr.drew (Gr.refl _)) ?_
 refine q_free rfl ?_
 refine q_move (v := .pointer (some ⟨p, 0, none⟩)) rfl rfl ?_
 simp only [Act.put, zs, z0, z1]
 refine q_free rfl ?_
 refine q_ld_bool (v := .bool false) rfl rfl (fun w h => (HW).gr h) rfl ?_
 simp only [Act.put, zs, z0, z1]
 refine q_free rfl ?_
 refine q_call2 rfl rfl rfl (fun w => by go_simp) (grc (fun w => k_reachOf_f p w) (rfl)) ?_
 simp only [Act.put, zs, z0, z1]
 refine q_free rfl ?_
 refine q_move (v := .pointer (some ⟨q, 0, none⟩)) rfl rfl ?_
 simp only [Act.put, zs, z0, z1]
 refine q_free rfl ?_
 refine q_ld_bool (v := .bool false) rfl rfl (fun w h => (HW).gr h) rfl ?_
 simp only [Act.put, zs, z0, z1]
 refine q_free rfl ?_
 refine q_call2 rfl rfl rfl (fun w => by go_simp) (grc (fun w => k_reachOf_f q w) (rfl)) ?_
 simp only [Act.put, zs, z0, z1]
 refine q_free rfl ?_
 refine q_assign (v := .pointer (some ⟨p, 8, none⟩)) rfl rfl ?_
 simp only [Act.put, zs, z0, z1]
 refine q_free rfl ?_
 refine q_assign (v := .pointer (some ⟨q, 8, none⟩)) rfl rfl ?_
 simp only [Act.put, zs, z0, z1]
 intro wq1 hq1
 have hp_q1 := (HA).gr hq1
 have hq_q1 := (HB).gr hq1
 have hPW_q1 := (HW).gr hq1
 have hPA_q1 := (HL).gr hq1
 have hF_q1 := (GrL.refl [p, q] w).then hq1
 go_upto_region 2 with fail
 refine wp_region_q (C := Gr wq1) (by kernel_rfl) (by kernel_rfl) (Gr.drew (Gr.refl _)) ?_
 refine q_free rfl ?_
 refine q_move (v := .pointer (some ⟨p, 8, none⟩)) rfl rfl ?_
 simp only [Act.put, zs, z0, z1]
 refine q_free rfl ?_
 refine q_nil (r := ⟨p, 8, none⟩) rfl rfl ?_
 simp only [Act.put, zs, z0, z1]
 refine q_free rfl ?_
 refine q_pS (v0 := .int .i64 a.vl) (v1 := .int .i64 a.vh) rfl rfl (fun w h => (hp_q1).gr h) rfl rfl ?_
 simp only [Act.put, zs, z0, z1]
 refine q_free rfl ?_
 refine q_move (v := .pointer (some ⟨q, 8, none⟩)) rfl rfl ?_
 simp only [Act.put, zs, z0, z1]
 refine q_free rfl ?_
 refine q_nil (r := ⟨q, 8, none⟩) rfl rfl ?_
 simp only [Act.put, zs, z0, z1]
 refine q_free rfl ?_
 refine q_pS (v0 := .int .i64 b.vl) (v1 := .int .i64 b.vh) rfl rfl (fun w h => (hq_q1).gr h) rfl rfl ?_
 simp only [Act.put, zs, z0, z1]
 refine q_free rfl ?_
 refine q_ld_bool (v := .bool false) rfl rfl (fun w h => (hPW_q1).gr h) rfl ?_
 simp only [Act.put, zs, z0, z1]
 refine q_free rfl ?_
 refine q_call2 rfl rfl rfl (fun w => by go_simp) (grc (fun w => k_reachOf_f PA w) (rfl)) ?_
 simp only [Act.put, zs, z0, z1]
 refine q_free rfl ?_
 refine q_nil (r := ⟨PA, 8, none⟩) rfl rfl ?_
 simp only [Act.put, zs, z0, z1]
 refine q_free rfl ?_
 refine q_pS (v0 := .int .i64 anyM.vl) (v1 := .int .i64 anyM.vh) rfl rfl (fun w h => (hPA_q1).gr h) rfl rfl ?_
 simp only [Act.put, zs, z0, z1]
 refine q_free rfl ?_
 refine q_move (v := .int .u8 1) rfl rfl ?_
 simp only [Act.put, zs, z0, z1]
 refine q_free rfl ?_
 refine q_cv_i641 rfl rfl ?_
 simp only [Act.put, zs, z0, z1]
 refine q_free rfl ?_
 refine q_call4 rfl rfl rfl rfl rfl (fun w => by go_simp) (grc (ca) (rfl)) ?_
 simp only [Act.put, zs, z0, z1]
 refine q_free rfl ?_
 refine q_move (v := .tuple #[.int .i64 M1, .int .i64 M2, .bool true]) rfl rfl ?_
 simp only [Act.put, zs, z0, z1]
 refine q_free rfl ?_
 refine q_extract (v := .int .i64 M1) rfl rfl rfl ?_
 simp only [Act.put, zs, z0, z1]
 refine q_free rfl ?_
 refine q_extract (v := .int .i64 M2) rfl rfl rfl ?_
 simp only [Act.put, zs, z0, z1]
 refine q_free rfl ?_
 refine q_extract (v := .bool true) rfl rfl rfl ?_
 simp only [Act.put, zs, z0, z1]
 refine q_free rfl ?_
 refine q_assign (v := .int .i64 M1) rfl rfl ?_
 simp only [Act.put, zs, z0, z1]
 refine q_free rfl ?_
 refine q_assign (v := .int .i64 M2) rfl rfl ?_
 simp only [Act.put, zs, z0, z1]
 refine q_free rfl ?_
 refine q_assign (v := .bool true) rfl rfl ?_
 simp only [Act.put, zs, z0, z1]
 intro wq2 hq2
 have hp_q2 := (hp_q1).gr hq2
 have hq_q2 := (hq_q1).gr hq2
 have hPW_q2 := (hPW_q1).gr hq2
 have hPA_q2 := (hPA_q1).gr hq2
 have hF_q2 := (hF_q1).then hq2
 go_upto_region 3 with fail
 refine rG ?_
 refine sF rfl ?_
 refine wM (v := .pointer (some ⟨p, 8, none⟩)) rfl rfl ?_
 simp only [Act.put, zs, z0, z1]
 refine sF rfl ?_
 refine wM (v := .pointer (some ⟨q, 8, none⟩)) rfl rfl ?_
 simp only [Act.put, zs, z0, z1]
 refine sF rfl ?_
 refine wM (v := .int .i64 M1) rfl rfl ?_
 simp only [Act.put, zs, z0, z1]
 refine sF rfl ?_
 refine wM (v := .int .i64 M2) rfl rfl ?_
 simp only [Act.put, zs, z0, z1]
 refine sF rfl ?_
 refine wp_nil (r := ⟨p, 8, none⟩) rfl rfl ?_
 simp only [Act.put, zs, z0, z1]
 refine sF rfl ?_
 refine wp_fS0 rfl rfl ?_
 simp only [Act.put, zs, z0, z1]
 refine sF rfl ?_
 refine wp_c_vl rfl rfl rfl (hp_q2) ?_
 intro ws3 hs3 gx3
 have hq_3 := (hq_q2).grx gx3 (Ne.symm hpq)
 have hPW_3 := (hPW_q2).grx gx3 (Ne.symm npPW)
 have hPA_3 := (hPA_q2).grx gx3 (Ne.symm npPA)
 have hF_3 := (hF_q2).thenx gx3 (.inl m21)
 change AtA ws3 p (bv { a with vl := M1 }) 30 at hs3
 simp only [Act.put, zs, z0, z1]
 refine sF rfl ?_
 refine wp_nil (r := ⟨q, 8, none⟩) rfl rfl ?_
 simp only [Act.put, zs, z0, z1]
 refine sF rfl ?_
 refine wp_fS1 rfl rfl ?_
 simp only [Act.put, zs, z0, z1]
 refine sF rfl ?_
 refine wp_c_vh rfl rfl rfl (hq_3) ?_
 intro ws4 hs4 gx4
 have hp_4 := (hs3).grx gx4 hpq
 have hPW_4 := (hPW_3).grx gx4 (Ne.symm nqPW)
 have hPA_4 := (hPA_3).grx gx4 (Ne.symm nqPA)
 have hF_4 := (hF_3).thenx gx4 (.inl m22)
 change AtA ws4 q (bv { b with vh := M2 }) 30 at hs4
 simp only [Act.put, zs, z0, z1]
 refine s_end ?_
 go_upto_region 4 with fail
 refine rG ?_
 refine sF rfl ?_
 refine wM (v := .bool true) rfl rfl ?_
 simp only [Act.put, zs, z0, z1]
 refine sF rfl ?_
 refine wA (v := .bool true) rfl rfl ?_
 simp only [Act.put, zs, z0, z1]
 refine s_end ?_
 go_wp2
 go_ret
 exact ⟨rfl, hp_4, hs4, hF_4⟩
set_option maxHeartbeats 16000000 in
theorem ordS_f1n (a b : Bd) (p q : Nat) (w : World) (hpq : p ≠ q) (HA : AtA w p (bv a) 30) (HB : AtA w q (bv b) 30) (PW PA : Nat) (npPW : p ≠ PW) (nqPW : q ≠ PW) (npPA : p ≠ PA) (nqPA : q ≠ PA) (nPWPA : PW ≠ PA) (HW : AtA w PW #[.bool false] 4) (HL : AtA w PA (bv anyM) 30) (M1 M2 : Int) (ca : ∀ w, Calls Tryz.prog 281 #[.agg #[.int .i64 a.vl, .int .i64 a.vh], .agg #[.int .i64 b.vl, .int .i64 b.vh], .agg #[.int .i64 anyM.vl, .int .i64 anyM.vh], .int .i64 1] w fun e w' => e = .returned (.tuple #[.int .i64 M1, .int .i64 M2, .bool false]) ∧ Gr w w') : Calls Tryz.prog 279 #[.pointer (some ⟨p, 0, none⟩), .pointer (some ⟨q, 0, none⟩), .int .u8 1, .pointer (some ⟨PW, 0, none⟩), .pointer (some ⟨PA, 0, none⟩)] w fun e w' => e = .returned (.bool false) ∧ GrL [p, q] w w' := by
 go_enter Tryz.func279, Tryz.ntmps279
 go_upto_region 0 with fail
 refine rG ?_
 refine sF rfl ?_
 refine wA (v := .bool false) rfl rfl ?_
 simp only [Act.put, zs, z0, z1]
 refine s_end ?_
 go_upto_region 1 with fail
 refine wp_region_q (C := Gr w) (by kernel_rfl) (by kernel_rfl) (Gr.drew (Gr.refl _)) ?_
 refine q_free rfl ?_
 refine q_move (v := .pointer (some ⟨p, 0, none⟩)) rfl rfl ?_
 simp only [Act.put, zs, z0, z1]
 refine q_free rfl ?_
 refine q_ld_bool (v := .bool false) rfl rfl (fun w h => (HW).gr h) rfl ?_
 simp only [Act.put, zs, z0, z1]
 refine q_free rfl ?_
 refine q_call2 rfl rfl rfl (fun w => by go_simp) (grc (fun w => k_reachOf_f p w) (rfl)) ?_
 simp only [Act.put, zs, z0, z1]
 refine q_free rfl ?_
 refine q_move (v := .pointer (some ⟨q, 0, none⟩)) rfl rfl ?_
 simp only [Act.put, zs, z0, z1]
 refine q_free rfl ?_
 refine q_ld_bool (v := .bool false) rfl rfl (fun w h => (HW).gr h) rfl ?_
 simp only [Act.put, zs, z0, z1]
 refine q_free rfl ?_
 refine q_call2 rfl rfl rfl (fun w => by go_simp) (grc (fun w => k_reachOf_f q w) (rfl)) ?_
 simp only [Act.put, zs, z0, z1]
 refine q_free rfl ?_
 refine q_assign (v := .pointer (some ⟨p, 8, none⟩)) rfl rfl ?_
 simp only [Act.put, zs, z0, z1]
 refine q_free rfl ?_
 refine q_assign (v := .pointer (some ⟨q, 8, none⟩)) rfl rfl ?_
 simp only [Act.put, zs, z0, z1]
 intro wq1 hq1
 have hp_q1 := (HA).gr hq1
 have hq_q1 := (HB).gr hq1
 have hPW_q1 := (HW).gr hq1
 have hPA_q1 := (HL).gr hq1
 have hF_q1 := (GrL.refl [p, q] w).then hq1
 go_upto_region 2 with fail
 refine wp_region_q (C := Gr wq1) (by kernel_rfl) (by kernel_rfl) (Gr.drew (Gr.refl _)) ?_
 refine q_free rfl ?_
 refine q_move (v := .pointer (some ⟨p, 8, none⟩)) rfl rfl ?_
 simp only [Act.put, zs, z0, z1]
 refine q_free rfl ?_
 refine q_nil (r := ⟨p, 8, none⟩) rfl rfl ?_
 simp only [Act.put, zs, z0, z1]
 refine q_free rfl ?_
 refine q_pS (v0 := .int .i64 a.vl) (v1 := .int .i64 a.vh) rfl rfl (fun w h => (hp_q1).gr h) rfl rfl ?_
 simp only [Act.put, zs, z0, z1]
 refine q_free rfl ?_
 refine q_move (v := .pointer (some ⟨q, 8, none⟩)) rfl rfl ?_
 simp only [Act.put, zs, z0, z1]
 refine q_free rfl ?_
 refine q_nil (r := ⟨q, 8, none⟩) rfl rfl ?_
 simp only [Act.put, zs, z0, z1]
 refine q_free rfl ?_
 refine q_pS (v0 := .int .i64 b.vl) (v1 := .int .i64 b.vh) rfl rfl (fun w h => (hq_q1).gr h) rfl rfl ?_
 simp only [Act.put, zs, z0, z1]
 refine q_free rfl ?_
 refine q_ld_bool (v := .bool false) rfl rfl (fun w h => (hPW_q1).gr h) rfl ?_
 simp only [Act.put, zs, z0, z1]
 refine q_free rfl ?_
 refine q_call2 rfl rfl rfl (fun w => by go_simp) (grc (fun w => k_reachOf_f PA w) (rfl)) ?_
 simp only [Act.put, zs, z0, z1]
 refine q_free rfl ?_
 refine q_nil (r := ⟨PA, 8, none⟩) rfl rfl ?_
 simp only [Act.put, zs, z0, z1]
 refine q_free rfl ?_
 refine q_pS (v0 := .int .i64 anyM.vl) (v1 := .int .i64 anyM.vh) rfl rfl (fun w h => (hPA_q1).gr h) rfl rfl ?_
 simp only [Act.put, zs, z0, z1]
 refine q_free rfl ?_
 refine q_move (v := .int .u8 1) rfl rfl ?_
 simp only [Act.put, zs, z0, z1]
 refine q_free rfl ?_
 refine q_cv_i641 rfl rfl ?_
 simp only [Act.put, zs, z0, z1]
 refine q_free rfl ?_
 refine q_call4 rfl rfl rfl rfl rfl (fun w => by go_simp) (grc (ca) (rfl)) ?_
 simp only [Act.put, zs, z0, z1]
 refine q_free rfl ?_
 refine q_move (v := .tuple #[.int .i64 M1, .int .i64 M2, .bool false]) rfl rfl ?_
 simp only [Act.put, zs, z0, z1]
 refine q_free rfl ?_
 refine q_extract (v := .int .i64 M1) rfl rfl rfl ?_
 simp only [Act.put, zs, z0, z1]
 refine q_free rfl ?_
 refine q_extract (v := .int .i64 M2) rfl rfl rfl ?_
 simp only [Act.put, zs, z0, z1]
 refine q_free rfl ?_
 refine q_extract (v := .bool false) rfl rfl rfl ?_
 simp only [Act.put, zs, z0, z1]
 refine q_free rfl ?_
 refine q_assign (v := .int .i64 M1) rfl rfl ?_
 simp only [Act.put, zs, z0, z1]
 refine q_free rfl ?_
 refine q_assign (v := .int .i64 M2) rfl rfl ?_
 simp only [Act.put, zs, z0, z1]
 refine q_free rfl ?_
 refine q_assign (v := .bool false) rfl rfl ?_
 simp only [Act.put, zs, z0, z1]
 intro wq2 hq2
 have hp_q2 := (hp_q1).gr hq2
 have hq_q2 := (hq_q1).gr hq2
 have hPW_q2 := (hPW_q1).gr hq2
 have hPA_q2 := (hPA_q1).gr hq2
 have hF_q2 := (hF_q1).then hq2
 go_upto_region 3 with fail
 refine rG ?_
 refine sF rfl ?_
 refine wM (v := .pointer (some ⟨p, 8, none⟩)) rfl rfl ?_
 simp only [Act.put, zs, z0, z1]
 refine sF rfl ?_
 refine wM (v := .pointer (some ⟨q, 8, none⟩)) rfl rfl ?_
 simp only [Act.put, zs, z0, z1]
 refine sF rfl ?_
 refine wM (v := .int .i64 M1) rfl rfl ?_
 simp only [Act.put, zs, z0, z1]
 refine sF rfl ?_
 refine wM (v := .int .i64 M2) rfl rfl ?_
 simp only [Act.put, zs, z0, z1]
 refine sF rfl ?_
 refine wp_nil (r := ⟨p, 8, none⟩) rfl rfl ?_
 simp only [Act.put, zs, z0, z1]
 refine sF rfl ?_
 refine wp_fS0 rfl rfl ?_
 simp only [Act.put, zs, z0, z1]
 refine sF rfl ?_
 refine wp_c_vl rfl rfl rfl (hp_q2) ?_
 intro ws3 hs3 gx3
 have hq_3 := (hq_q2).grx gx3 (Ne.symm hpq)
 have hPW_3 := (hPW_q2).grx gx3 (Ne.symm npPW)
 have hPA_3 := (hPA_q2).grx gx3 (Ne.symm npPA)
 have hF_3 := (hF_q2).thenx gx3 (.inl m21)
 change AtA ws3 p (bv { a with vl := M1 }) 30 at hs3
 simp only [Act.put, zs, z0, z1]
 refine sF rfl ?_
 refine wp_nil (r := ⟨q, 8, none⟩) rfl rfl ?_
 simp only [Act.put, zs, z0, z1]
 refine sF rfl ?_
 refine wp_fS1 rfl rfl ?_
 simp only [Act.put, zs, z0, z1]
 refine sF rfl ?_
 refine wp_c_vh rfl rfl rfl (hq_3) ?_
 intro ws4 hs4 gx4
 have hp_4 := (hs3).grx gx4 hpq
 have hPW_4 := (hPW_3).grx gx4 (Ne.symm nqPW)
 have hPA_4 := (hPA_3).grx gx4 (Ne.symm nqPA)
 have hF_4 := (hF_3).thenx gx4 (.inl m22)
 change AtA ws4 q (bv { b with vh := M2 }) 30 at hs4
 simp only [Act.put, zs, z0, z1]
 refine s_end ?_
 go_upto_region 4 with fail
 refine rG ?_
 refine sF rfl ?_
 refine wM (v := .bool false) rfl rfl ?_
 simp only [Act.put, zs, z0, z1]
 refine sF rfl ?_
 refine wA (v := .bool false) rfl rfl ?_
 simp only [Act.put, zs, z0, z1]
 refine s_end ?_
 go_wp2
 go_ret
 exact ⟨rfl, hF_4⟩
theorem ordS_t0 (a b : Bd) (ga : Good a) (gb : Good b) (p q : Nat) (w : World) (hpq : p ≠ q) (HA : AtA w p (bv a) 30) (HB : AtA w q (bv b) 30) (PW PA : Nat) (npPW : p ≠ PW) (nqPW : q ≠ PW) (npPA : p ≠ PA) (nqPA : q ≠ PA) (nPWPA : PW ≠ PA) (HW : AtA w PW #[.bool true] 4) (HL : AtA w PA (bv anyM) 30) : Calls Tryz.prog 279 #[.pointer (some ⟨p, 0, none⟩), .pointer (some ⟨q, 0, none⟩), .int .u8 0, .pointer (some ⟨PW, 0, none⟩), .pointer (some ⟨PA, 0, none⟩)] w (tellPost p q (gtS true 0 a b) w) := by
 have i0 := ga.s0; have i1 := ga.s1; have i2 := ga.s2; have j0 := gb.s0; have j1 := gb.s1; have j2 := gb.s2
 unfold gtS
 simp only [if_true]
 rw [if_neg (by omega)]
 exact ordS_t0o a b p q w hpq HA HB PW PA npPW nqPW npPA nqPA nPWPA HW HL _ _ (fun w => k_apart_i64_0 _ _ _ _ _ _ (by unfold wrap64; omega) (by unfold wrap64; omega) w)
theorem ordS_t1 (a b : Bd) (ga : Good a) (gb : Good b) (p q : Nat) (w : World) (hpq : p ≠ q) (HA : AtA w p (bv a) 30) (HB : AtA w q (bv b) 30) (PW PA : Nat) (npPW : p ≠ PW) (nqPW : q ≠ PW) (npPA : p ≠ PA) (nqPA : q ≠ PA) (nPWPA : PW ≠ PA) (HW : AtA w PW #[.bool true] 4) (HL : AtA w PA (bv anyM) 30) : Calls Tryz.prog 279 #[.pointer (some ⟨p, 0, none⟩), .pointer (some ⟨q, 0, none⟩), .int .u8 1, .pointer (some ⟨PW, 0, none⟩), .pointer (some ⟨PA, 0, none⟩)] w (tellPost p q (gtS true 1 a b) w) := by
 have i0 := ga.s0; have i1 := ga.s1; have i2 := ga.s2; have j0 := gb.s0; have j1 := gb.s1; have j2 := gb.s2
 unfold gtS
 simp only [if_true]
 by_cases g1 : 9223372036854775807 ≤ b.sl
 ·rw [if_pos ⟨by decide, .inl g1⟩]
  exact ordS_t1n a b p q w hpq HA HB PW PA npPW nqPW npPA nqPA nPWPA HW HL _ _ (fun w => k_apart_i64_na _ _ _ _ _ _ g1 w)
 ·by_cases g2 : a.sh ≤ -9223372036854775808
  ·rw [if_pos ⟨by decide, .inr g2⟩]
   exact ordS_t1n a b p q w hpq HA HB PW PA npPW nqPW npPA nqPA nPWPA HW HL _ _ (fun w => k_apart_i64_nb _ _ _ _ _ _ (Int.not_le.1 g1) g2 w)
  ·rw [if_neg (by omega)]
   exact ordS_t1o a b p q w hpq HA HB PW PA npPW nqPW npPA nqPA nPWPA HW HL _ _ (fun w => k_apart_i64_1 _ _ _ _ _ _ (Int.not_le.1 g1) (Int.not_le.1 g2) (by unfold wrap64; omega) (by unfold wrap64; omega) w)
theorem ordS_f0 (a b : Bd) (ga : Good a) (gb : Good b) (p q : Nat) (w : World) (hpq : p ≠ q) (HA : AtA w p (bv a) 30) (HB : AtA w q (bv b) 30) (PW PA : Nat) (npPW : p ≠ PW) (nqPW : q ≠ PW) (npPA : p ≠ PA) (nqPA : q ≠ PA) (nPWPA : PW ≠ PA) (HW : AtA w PW #[.bool false] 4) (HL : AtA w PA (bv anyM) 30) : Calls Tryz.prog 279 #[.pointer (some ⟨p, 0, none⟩), .pointer (some ⟨q, 0, none⟩), .int .u8 0, .pointer (some ⟨PW, 0, none⟩), .pointer (some ⟨PA, 0, none⟩)] w (tellPost p q (gtS false 0 a b) w) := by
 have i0 := ga.v0; have i1 := ga.v1; have i2 := ga.v2; have j0 := gb.v0; have j1 := gb.v1; have j2 := gb.v2
 unfold gtS
 simp only [Bool.false_eq_true, if_false]
 rw [if_neg (by omega)]
 exact ordS_f0o a b p q w hpq HA HB PW PA npPW nqPW npPA nqPA nPWPA HW HL _ _ (fun w => k_apart_i64_0 _ _ _ _ _ _ (by unfold wrap64; omega) (by unfold wrap64; omega) w)
theorem ordS_f1 (a b : Bd) (ga : Good a) (gb : Good b) (p q : Nat) (w : World) (hpq : p ≠ q) (HA : AtA w p (bv a) 30) (HB : AtA w q (bv b) 30) (PW PA : Nat) (npPW : p ≠ PW) (nqPW : q ≠ PW) (npPA : p ≠ PA) (nqPA : q ≠ PA) (nPWPA : PW ≠ PA) (HW : AtA w PW #[.bool false] 4) (HL : AtA w PA (bv anyM) 30) : Calls Tryz.prog 279 #[.pointer (some ⟨p, 0, none⟩), .pointer (some ⟨q, 0, none⟩), .int .u8 1, .pointer (some ⟨PW, 0, none⟩), .pointer (some ⟨PA, 0, none⟩)] w (tellPost p q (gtS false 1 a b) w) := by
 have i0 := ga.v0; have i1 := ga.v1; have i2 := ga.v2; have j0 := gb.v0; have j1 := gb.v1; have j2 := gb.v2
 unfold gtS
 simp only [Bool.false_eq_true, if_false]
 by_cases g1 : 2147483647 ≤ b.vl
 ·rw [if_pos ⟨by decide, .inl g1⟩]
  exact ordS_f1n a b p q w hpq HA HB PW PA npPW nqPW npPA nqPA nPWPA HW HL _ _ (fun w => k_apart_i64_na _ _ _ _ _ _ g1 w)
 ·by_cases g2 : a.vh ≤ -2147483648
  ·rw [if_pos ⟨by decide, .inr g2⟩]
   exact ordS_f1n a b p q w hpq HA HB PW PA npPW nqPW npPA nqPA nPWPA HW HL _ _ (fun w => k_apart_i64_nb _ _ _ _ _ _ (Int.not_le.1 g1) g2 w)
  ·rw [if_neg (by omega)]
   exact ordS_f1o a b p q w hpq HA HB PW PA npPW nqPW npPA nqPA nPWPA HW HL _ _ (fun w => k_apart_i64_1 _ _ _ _ _ _ (Int.not_le.1 g1) (Int.not_le.1 g2) (by unfold wrap64; omega) (by unfold wrap64; omega) w)
end Go.Proofs.YtcbcijibgpaipaaGreat
