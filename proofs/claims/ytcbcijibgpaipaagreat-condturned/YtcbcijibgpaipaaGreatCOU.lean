/- Towards the statements of package cond (layer 6): one bound above another one, without a sign. -/
import Derived.Test.YtcbcijibgpaipaaGreatCA
import Derived.Test.YtcbcijibgpaipaaGreatMN
import Derived.Deep.DeepCutAuto
namespace Go.Proofs.YtcbcijibgpaipaaGreat
open Go.ChangeShapes Go.WideShapes Go.ChangeAt Go.RowKit
open Tn (iv)
set_option linter.unusedVariables false
set_option linter.unusedSimpArgs false
set_option maxRecDepth 20000

set_option maxHeartbeats 16000000 in
theorem ordU_t0o (a b : Bd) (p q : Nat) (w : World) (hpq : p ≠ q) (HA : AtA w p (bv a) 30) (HB : AtA w q (bv b) 30) (PW PA : Nat) (npPW : p ≠ PW) (nqPW : q ≠ PW) (npPA : p ≠ PA) (nqPA : q ≠ PA) (nPWPA : PW ≠ PA) (HW : AtA w PW #[.bool true] 4) (HL : AtA w PA (bv anyM) 30) (M1 M2 : Int) (ca : ∀ w, Calls Tryz.prog 278 #[.agg #[.int .u64 a.ul, .int .u64 a.uh], .agg #[.int .u64 b.ul, .int .u64 b.uh], .agg #[.int .u64 anyM.ul, .int .u64 anyM.uh], .int .u64 0] w fun e w' => e = .returned (.tuple #[.int .u64 M1, .int .u64 M2, .bool true]) ∧ Gr w w') : Calls Tryz.prog 277 #[.pointer (some ⟨p, 0, none⟩), .pointer (some ⟨q, 0, none⟩), .int .u8 0, .pointer (some ⟨PW, 0, none⟩), .pointer (some ⟨PA, 0, none⟩)] w fun e w' => e = .returned (.bool true) ∧ AtA w' p (bv { a with ul := M1 }) 30 ∧ AtA w' q (bv { b with uh := M2 }) 30 ∧ GrL [p, q] w w' := by
 go_enter Tryz.func277, Tryz.ntmps277
 go_upto_region 0 with fail
 refine rG ?_
 refine sF rfl ?_
 refine wA (v := .bool false) rfl rfl ?_
 simp only [Act.put, zs, z0, z1]
 refine s_end ?_
 go_upto_region 1 with fail
 refine wp_region_q (C := Gr w) (by kernel_rfl) (by kernel_rfl) (Gr.drew (Gr.refl _)) ?_
 refine q_free rfl ?_
 refine q_move (v := .pointer (some ⟨p, 0, none⟩)) rfl rfl ?_
 simp only [Act.put, zs, z0, z1]
 refine q_free rfl ?_
 refine q_ld_bool (v := .bool true) rfl rfl (fun w h => (HW).gr h) rfl ?_
 simp only [Act.put, zs, z0, z1]
 refine q_free rfl ?_
 refine q_call2 rfl rfl rfl (fun w => by go_simp) (grc (fun w => k_spanOf_t p w) (rfl)) ?_
 simp only [Act.put, zs, z0, z1]
 refine q_free rfl ?_
 refine q_move (v := .pointer (some ⟨q, 0, none⟩)) rfl rfl ?_
 simp only [Act.put, zs, z0, z1]
 refine q_free rfl ?_
 refine q_ld_bool (v := .bool true) rfl rfl (fun w h => (HW).gr h) rfl ?_
 simp only [Act.put, zs, z0, z1]
 refine q_free rfl ?_
 refine q_call2 rfl rfl rfl (fun w => by go_simp) (grc (fun w => k_spanOf_t q w) (rfl)) ?_
 simp only [Act.put, zs, z0, z1]
 refine q_free rfl ?_
 refine q_assign (v := .pointer (some ⟨p, 2, none⟩)) rfl rfl ?_
 simp only [Act.put, zs, z0, z1]
 refine q_free rfl ?_
 refine q_assign (v := .pointer (some ⟨q, 2, none⟩)) rfl rfl ?_
 simp only [Act.put, zs, z0, z1]
 intro wq1 hq1
 have hp_q1 := (HA).gr hq1
 have hq_q1 := (HB).gr hq1
 have hPW_q1 := (HW).gr hq1
 have hPA_q1 := (HL).gr hq1
 have hF_q1 := (GrL.refl [p, q] w).then hq1
 go_upto_region 2 with fail
 refine wp_region_q (C := Gr wq1) (by kernel_rfl) (by kernel_rfl) (Gr.drew (Gr.refl _)) ?_
 refine q_free rfl ?_
 refine q_move (v := .pointer (some ⟨p, 2, none⟩)) rfl rfl ?_
 simp only [Act.put, zs, z0, z1]
 refine q_free rfl ?_
 refine q_nil (r := ⟨p, 2, none⟩) rfl rfl ?_
 simp only [Act.put, zs, z0, z1]
 refine q_free rfl ?_
 refine q_pU (v0 := .int .u64 a.ul) (v1 := .int .u64 a.uh) rfl rfl (fun w h => (hp_q1).gr h) rfl rfl ?_
 simp only [Act.put, zs, z0, z1]
 refine q_free rfl ?_
 refine q_move (v := .pointer (some ⟨q, 2, none⟩)) rfl rfl ?_
 simp only [Act.put, zs, z0, z1]
 refine q_free rfl ?_
 refine q_nil (r := ⟨q, 2, none⟩) rfl rfl ?_
 simp only [Act.put, zs, z0, z1]
 refine q_free rfl ?_
 refine q_pU (v0 := .int .u64 b.ul) (v1 := .int .u64 b.uh) rfl rfl (fun w h => (hq_q1).gr h) rfl rfl ?_
 simp only [Act.put, zs, z0, z1]
 refine q_free rfl ?_
 refine q_ld_bool (v := .bool true) rfl rfl (fun w h => (hPW_q1).gr h) rfl ?_
 simp only [Act.put, zs, z0, z1]
 refine q_free rfl ?_
 refine q_call2 rfl rfl rfl (fun w => by go_simp) (grc (fun w => k_spanOf_t PA w) (rfl)) ?_
 simp only [Act.put, zs, z0, z1]
 refine q_free rfl ?_
 refine q_nil (r := ⟨PA, 2, none⟩) rfl rfl ?_
 simp only [Act.put, zs, z0, z1]
 refine q_free rfl ?_
 refine q_pU (v0 := .int .u64 anyM.ul) (v1 := .int .u64 anyM.uh) rfl rfl (fun w h => (hPA_q1).gr h) rfl rfl ?_
 simp only [Act.put, zs, z0, z1]
 refine q_free rfl ?_
 refine q_move (v := .int .u8 0) rfl rfl ?_
 simp only [Act.put, zs, z0, z1]
 refine q_free rfl ?_
 refine q_cv_u640 rfl rfl ?_
 simp only [Act.put, zs, z0, z1]
 refine q_free rfl ?_
 refine q_call4 rfl rfl rfl rfl rfl (fun w => by go_simp) (grc (ca) (rfl)) ?_
 simp only [Act.put, zs, z0, z1]
 refine q_free rfl ?_
 refine q_move (v := .tuple #[.int .u64 M1, .int .u64 M2, .bool true]) rfl rfl ?_
 simp only [Act.put, zs, z0, z1]
 refine q_free rfl ?_
 refine q_extract (v := .int .u64 M1) rfl rfl rfl ?_
 simp only [Act.put, zs, z0, z1]
 refine q_free rfl ?_
 refine q_extract (v := .int .u64 M2) rfl rfl rfl ?_
 simp only [Act.put, zs, z0, z1]
 refine q_free rfl ?_
 refine q_extract (v := .bool true) rfl rfl rfl ?_
 simp only [Act.put, zs, z0, z1]
 refine q_free rfl ?_
 refine q_assign (v := .int .u64 M1) rfl rfl ?_
 simp only [Act.put, zs, z0, z1]
 refine q_free rfl ?_
 refine q_assign (v := .int .u64 M2) rfl rfl ?_
 simp only [Act.put, zs, z0, z1]
 refine q_free rfl ?_
 refine q_assign (v := .bool true) rfl rfl ?_
 simp only [Act.put, zs, z0, z1]
 intro wq2 hq2
 have hp_q2 := (hp_q1).gr hq2
 have hq_q2 := (hq_q1).gr hq2
 have hPW_q2 := (hPW_q1).gr hq2
 have hPA_q2 := (hPA_q1).gr hq2
 have hF_q2 := (hF_q1).then hq2
 go_upto_region 3 with fail
 refine rG ?_
 refine sF rfl ?_
 refine wM (v := .pointer (some ⟨p, 2, none⟩)) rfl rfl ?_
 simp only [Act.put, zs, z0, z1]
 refine sF rfl ?_
 refine wM (v := .pointer (some ⟨q, 2, none⟩)) rfl rfl ?_
 simp only [Act.put, zs, z0, z1]
 refine sF rfl ?_
 refine wM (v := .int .u64 M1) rfl rfl ?_
 simp only [Act.put, zs, z0, z1]
 refine sF rfl ?_
 refine wM (v := .int .u64 M2) rfl rfl ?_
 simp only [Act.put, zs, z0, z1]
 refine sF rfl ?_
 refine wp_nil (r := ⟨p, 2, none⟩) rfl rfl ?_
 simp only [Act.put, zs, z0, z1]
 refine sF rfl ?_
 refine wp_fU0 rfl rfl ?_
 simp only [Act.put, zs, z0, z1]
 refine sF rfl ?_
 refine wp_c_ul rfl rfl rfl (hp_q2) ?_
 intro ws3 hs3 gx3
 have hq_3 := (hq_q2).grx gx3 (Ne.symm hpq)
 have hPW_3 := (hPW_q2).grx gx3 (Ne.symm npPW)
 have hPA_3 := (hPA_q2).grx gx3 (Ne.symm npPA)
 have hF_3 := (hF_q2).thenx gx3 (.inl m21)
 change AtA ws3 p (bv { a with ul := M1 }) 30 at hs3
 simp only [Act.put, zs, z0, z1]
 refine sF rfl ?_
 refine wp_nil (r := ⟨q, 2, none⟩) rfl rfl ?_
 simp only [Act.put, zs, z0, z1]
 refine sF rfl ?_
 refine wp_fU1 rfl rfl ?_
 simp only [Act.put, zs, z0, z1]
 refine sF rfl ?_
 refine wp_c_uh rfl rfl rfl (hq_3) ?_
 intro ws4 hs4 gx4
 have hp_4 := (hs3).grx gx4 hpq
 have hPW_4 := (hPW_3).grx gx4 (Ne.symm nqPW)
 have hPA_4 := (hPA_3).grx gx4 (Ne.symm nqPA)
 have hF_4 := (hF_3).thenx gx4 (.inl m22)
 change AtA ws4 q (bv { b with uh := M2 }) 30 at hs4
 simp only [Act.put, zs, z0, z1]
 refine s_end ?_
 go_upto_region 4 with fail
 refine rG ?_
 refine sF rfl ?_
 refine wM (v := .bool true) rfl rfl ?_
 simp only [Act.put, zs, z0, z1]
 refine sF rfl ?_
 refine wA (v := .bool true) rfl rfl ?_
 simp only [Act.put, zs, z0, z1]
 refine s_end ?_
 go_wp2
 go_ret
 exact ⟨rfl, hp_4, hs4, hF_4⟩
set_option maxHeartbeats 16000000 in
theorem ordU_t1o (a b : Bd) (p q : Nat) (w : World) (hpq : p ≠ q) (HA : AtA w p (bv a) 30) (HB : AtA w q (bv b) 30) (PW PA : Nat) (npPW : p ≠ PW) (nqPW : q ≠ PW) (npPA : p ≠ PA) (nqPA : q ≠ PA) (nPWPA : PW ≠ PA) (HW : AtA w PW #[.bool true] 4) (HL : AtA w PA (bv anyM) 30) (M1 M2 : Int) (ca : ∀ w, Calls Tryz.prog 278 #[.agg #[.int .u64 a.ul, .int .u64 a.uh], .agg #[.int .u64 b.ul, .int .u64 b.uh], .agg #[.int .u64 anyM.ul, .int .u64 anyM.uh], .int .u64 1] w fun e w' => e = .returned (.tuple #[.int .u64 M1, .int .u64 M2, .bool true]) ∧ Gr w w') : Calls Tryz.prog 277 #[.pointer (some ⟨p, 0, none⟩), .pointer (some ⟨q, 0, none⟩), .int .u8 1, .pointer (some ⟨PW, 0, none⟩), .pointer (some ⟨PA, 0, none⟩)] w fun e w' => e = .returned (.bool true) ∧ AtA w' p (bv { a with ul := M1 }) 30 ∧ AtA w' q (bv { b with uh := M2 }) 30 ∧ GrL [p, q] w w' := by
 go_enter Tryz.func277, Tryz.ntmps277
 go_upto_region 0 with fail
 refine rG ?_
 refine sF rfl ?_
 refine wA (v := .bool false) rfl rfl ?_
 simp only [Act.put, zs, z0, z1]
 refine s_end ?_
 go_upto_region 1 with fail
 refine wp_region_q (C := Gr w) (by kernel_rfl) (by kernel_rfl) (Gr.drew (Gr.refl _)) ?_
 refine q_free rfl ?_
 refine q_move (v := .pointer (some ⟨p, 0, none⟩)) rfl rfl ?_
 simp only [Act.put, zs, z0, z1]
 refine q_free rfl ?_
 refine q_ld_bool (v := .bool true) rfl rfl (fun w h => (HW).gr h) rfl ?_
 simp only [Act.put, zs, z0, z1]
 refine q_free rfl ?_
 refine q_call2 rfl rfl rfl (fun w => by go_simp) (grc (fun w => k_spanOf_t p w) (rfl)) ?_
 simp only [Act.put, zs, z0, z1]
 refine q_free rfl ?_
 refine q_move (v := .pointer (some ⟨q, 0, none⟩)) rfl rfl ?_
 simp only [Act.put, zs, z0, z1]
 refine q_free rfl ?_
 refine q_ld_bool (v := .bool true) rfl rfl (fun w h => (HW).gr h) rfl ?_
 simp only [Act.put, zs, z0, z1]
 refine q_free rfl ?_
 refine q_call2 rfl rfl rfl (fun w => by go_simp) (grc (fun w => k_spanOf_t q w) (rfl)) ?_
 simp only [Act.put, zs, z0, z1]
 refine q_free rfl ?_
 refine q_assign (v := .pointer (some ⟨p, 2, none⟩)) rfl rfl ?_
 simp only [Act.put, zs, z0, z1]
 refine q_free rfl ?_
 refine q_assign (v := .pointer (some ⟨q, 2, none⟩)) rfl rfl ?_
 simp only [Act.put, zs, z0, z1]
 intro wq1 hq1
 have hp_q1 := (HA).gr hq1
 have hq_q1 := (HB).gr hq1
 have hPW_q1 := (HW).gr hq1
 have hPA_q1 := (HL).gr hq1
 have hF_q1 := (GrL.refl [p, q] w).then hq1
 go_upto_region 2 with fail
 refine wp_region_q (C := Gr wq1) (by kernel_rfl) (by kernel_rfl) (Gr.drew (Gr.refl _)) ?_
 refine q_free rfl ?_
 refine q_move (v := .pointer (some ⟨p, 2, none⟩)) rfl rfl ?_
 simp only [Act.put, zs, z0, z1]
 refine q_free rfl ?_
 refine q_nil (r := ⟨p, 2, none⟩) rfl rfl ?_
 simp only [Act.put, zs, z0, z1]
 refine q_free rfl ?_
 refine q_pU (v0 := .int .u64 a.ul) (v1 := .int .u64 a.uh) rfl rfl (fun w h => (hp_q1).gr h) rfl rfl ?_
 simp only [Act.put, zs, z0, z1]
 refine q_free rfl ?_
 refine q_move (v := .pointer (some ⟨q, 2, none⟩)) rfl rfl ?_
 simp only [Act.put, zs, z0, z1]
 refine q_free rfl ?_
 refine q_nil (r := ⟨q, 2, none⟩) rfl rfl ?_
 simp only [Act.put, zs, z0, z1]
 refine q_free rfl ?_
 refine q_pU (v0 := .int .u64 b.ul) (v1 := .int .u64 b.uh) rfl rfl (fun w h => (hq_q1).gr h) rfl rfl ?_
 simp only [Act.put, zs, z0, z1]
 refine q_free rfl ?_
 refine q_ld_bool (v := .bool true) rfl rfl (fun w h => (hPW_q1).gr h) rfl ?_
 simp only [Act.put, zs, z0, z1]
 refine q_free rfl ?_
 refine q_call2 rfl rfl rfl (fun w => by go_simp) (grc (fun w => k_spanOf_t PA w) (rfl)) ?_
 simp only [Act.put, zs, z0, z1]
 refine q_free rfl ?_
 refine q_nil (r := ⟨PA, 2, none⟩) rfl rfl ?_
 simp only [Act.put, zs, z0, z1]
 refine q_free rfl ?_
 refine q_pU (v0 := .int .u64 anyM.ul) (v1 := .int .u64 anyM.uh) rfl rfl (fun w h => (hPA_q1).gr h) rfl rfl ?_
 simp only [Act.put, zs, z0, z1]
 refine q_free rfl ?_
 refine q_move (v := .int .u8 1) rfl rfl ?_
 simp only [Act.put, zs, z0, z1]
 refine q_free rfl ?_
 refine q_cv_u641 rfl rfl ?_
 simp only [Act.put, zs, z0, z1]
 refine q_free rfl ?_
 refine q_call4 rfl rfl rfl rfl rfl (fun w => by go_simp) (grc (ca) (rfl)) ?_
 simp only [Act.put, zs, z0, z1]
 refine q_free rfl ?_
 refine q_move (v := .tuple #[.int .u64 M1, .int .u64 M2, .bool true]) rfl rfl ?_
 simp only [Act.put, zs, z0, z1]
 refine q_free rfl ?_
 refine q_extract (v := .int .u64 M1) rfl rfl rfl ?_
 simp only [Act.put, zs, z0, z1]
 refine q_free rfl ?_
 refine q_extract (v := .int .u64 M2) rfl rfl rfl ?_
 simp only [Act.put, zs, z0, z1]
 refine q_free rfl ?_
 refine q_extract (v := .bool true) rfl rfl rfl ?_
 simp only [Act.put, zs, z0, z1]
 refine q_free rfl ?_
 refine q_assign (v := .int .u64 M1) rfl rfl ?_
 simp only [Act.put, zs, z0, z1]
 refine q_free rfl ?_
 refine q_assign (v := .int .u64 M2) rfl rfl ?_
 simp only [Act.put, zs, z0, z1]
 refine q_free rfl ?_
 refine q_assign (v := .bool true) rfl rfl ?_
 simp only [Act.put, zs, z0, z1]
 intro wq2 hq2
 have hp_q2 := (hp_q1).gr hq2
 have hq_q2 := (hq_q1).gr hq2
 have hPW_q2 := (hPW_q1).gr hq2
 have hPA_q2 := (hPA_q1).gr hq2
 have hF_q2 := (hF_q1).then hq2
 go_upto_region 3 with fail
 refine rG ?_
 refine sF rfl ?_
 refine wM (v := .pointer (some ⟨p, 2, none⟩)) rfl rfl ?_
 simp only [Act.put, zs, z0, z1]
 refine sF rfl ?_
 refine wM (v := .pointer (some ⟨q, 2, none⟩)) rfl rfl ?_
 simp only [Act.put, zs, z0, z1]
 refine sF rfl ?_
 refine wM (v := .int .u64 M1) rfl rfl ?_
 simp only [Act.put, zs, z0, z1]
 refine sF rfl ?_
 refine wM (v := .int .u64 M2) rfl rfl ?_
 simp only [Act.put, zs, z0, z1]
 refine sF rfl ?_
 refine wp_nil (r := ⟨p, 2, none⟩) rfl rfl ?_
 simp only [Act.put, zs, z0, z1]
 refine sF rfl ?_
 refine wp_fU0 rfl rfl ?_
 simp only [Act.put, zs, z0, z1]
 refine sF rfl ?_
 refine wp_c_ul rfl rfl rfl (hp_q2) ?_
 intro ws3 hs3 gx3
 have hq_3 := (hq_q2).grx gx3 (Ne.symm hpq)
 have hPW_3 := (hPW_q2).grx gx3 (Ne.symm npPW)
 have hPA_3 := (hPA_q2).grx gx3 (Ne.symm npPA)
 have hF_3 := (hF_q2).thenx gx3 (.inl m21)
 change AtA ws3 p (bv { a with ul := M1 }) 30 at hs3
 simp only [Act.put, zs, z0, z1]
 refine sF rfl ?_
 refine wp_nil (r := ⟨q, 2, none⟩) rfl rfl ?_
 simp only [Act.put, zs, z0, z1]
 refine sF rfl ?_
 refine wp_fU1 rfl rfl ?_
 simp only [Act.put, zs, z0, z1]
 refine sF rfl ?_
 refine wp_c_uh rfl rfl rfl (hq_3) ?_
 intro ws4 hs4 gx4
 have hp_4 := (hs3).grx gx4 hpq
 have hPW_4 := (hPW_3).grx gx4 (Ne.symm nqPW)
 have hPA_4 := (hPA_3).grx gx4 (Ne.symm nqPA)
 have hF_4 := (hF_3).thenx gx4 (.inl m22)
 change AtA ws4 q (bv { b with uh := M2 }) 30 at hs4
 simp only [Act.put, zs, z0, z1]
 refine s_end ?_
 go_upto_region 4 with fail
 refine rG ?_
 refine sF rfl ?_
 refine wM (v := .bool true) rfl rfl ?_
 simp only [Act.put, zs, z0, z1]
 refine sF rfl ?_
 refine wA (v := .bool true) rfl rfl ?_
 simp only [Act.put, zs, z0, z1]
 refine s_end ?_
 go_wp2
 go_ret
 exact ⟨rfl, hp_4, hs4, hF_4⟩
set_option maxHeartbeats 16000000 in
theorem ordU_t1n (a b : Bd) (p q : Nat) (w : World) (hpq : p ≠ q) (HA : AtA w p (bv a) 30) (HB : AtA w q (bv b) 30) (PW PA : Nat) (npPW : p ≠ PW) (nqPW : q ≠ PW) (npPA : p ≠ PA) (nqPA : q ≠ PA) (nPWPA : PW ≠ PA) (HW : AtA w PW #[.bool true] 4) (HL : AtA w PA (bv anyM) 30) (M1 M2 : Int) (ca : ∀ w, Calls Tryz.prog 278 #[.agg #[.int .u64 a.ul, .int .u64 a.uh], .agg #[.int .u64 b.ul, .int .u64 b.uh], .agg #[.int .u64 anyM.ul, .int .u64 anyM.uh], .int .u64 1] w fun e w' => e = .returned (.tuple #[.int .u64 M1, .int .u64 M2, .bool false]) ∧ Gr w w') : Calls Tryz.prog 277 #[.pointer (some ⟨p, 0, none⟩), .pointer (some ⟨q, 0, none⟩), .int .u8 1, .pointer (some ⟨PW, 0, none⟩), .pointer (some ⟨PA, 0, none⟩)] w fun e w' => e = .returned (.bool false) ∧ GrL [p, q] w w' := by
 go_enter Tryz.func277, Tryz.ntmps277
 go_upto_region 0 with fail
 refine rG ?_
 refine sF rfl ?_
 refine wA (v := .bool false) rfl rfl ?_
 simp only [Act.put, zs, z0, z1]
 refine s_end ?_
 go_upto_region 1 with fail
 refine wp_region_q (C := Gr w) (by kernel_rfl) (by kernel_rfl) (Gr.drew (Gr.refl _)) ?_
 refine q_free rfl ?_
 refine q_move (v := .pointer (some ⟨p, 0, none⟩)) rfl rfl ?_
 simp only [Act.put, zs, z0, z1]
 refine q_free rfl ?_
 refine q_ld_bool (v := .bool true) rfl rfl (fun w h => (HW).gr h) rfl ?_
 simp only [Act.put, zs, z0, z1]
 refine q_free rfl ?_
 refine q_call2 rfl rfl rfl (fun w => by go_simp) (grc (fun w => k_spanOf_t p w) (rfl)) ?_
 simp only [Act.put, zs, z0, z1]
 refine q_free rfl ?_
 refine q_move (v := .pointer (some ⟨q, 0, none⟩)) rfl rfl ?_
 simp only [Act.put, zs, z0, z1]
 refine q_free rfl ?_
 refine q_ld_bool (v := .bool true) rfl rfl (fun w h => (HW).gr h) rfl ?_
 simp only [Act.put, zs, z0, z1]
 refine q_free rfl ?_
 refine q_call2 rfl rfl rfl (fun w => by go_simp) (grc (fun w => k_spanOf_t q w) (rfl)) ?_
 simp only [Act.put, zs, z0, z1]
 refine q_free rfl ?_
 refine q_assign (v := .pointer (some ⟨p, 2, none⟩)) rfl rfl ?_
 simp only [Act.put, zs, z0, z1]
 refine q_free rfl ?_
 refine q_assign (v := .pointer (some ⟨q, 2, none⟩)) rfl rfl ?_
 simp only [Act.put, zs, z0, z1]
 intro wq1 hq1
 have hp_q1 := (HA).gr hq1
 have hq_q1 := (HB).gr hq1
 have hPW_q1 := (HW).gr hq1
 have hPA_q1 := (HL).gr hq1
 have hF_q1 := (GrL.refl [p, q] w).then hq1
 go_upto_region 2 with fail
 refine wp_region_q (C := Gr wq1) (by kernel_rfl) (by kernel_rfl) (Gr.drew (Gr.refl _)) ?_
 refine q_free rfl ?_
 refine q_move (v := .pointer (some ⟨p, 2, none⟩)) rfl rfl ?_
 simp only [Act.put, zs, z0, z1]
 refine q_free rfl ?_
 refine q_nil (r := ⟨p, 2, none⟩) rfl rfl ?_
 simp only [Act.put, zs, z0, z1]
 refine q_free rfl ?_
 refine q_pU (v0 := .int .u64 a.ul) (v1 := .int .u64 a.uh) rfl rfl (fun w h => (hp_q1).gr h) rfl rfl ?_
 simp only [Act.put, zs, z0, z1]
 refine q_free rfl ?_
 refine q_move (v := .pointer (some ⟨q, 2, none⟩)) rfl rfl ?_
 simp only [Act.put, zs, z0, z1]
 refine q_free rfl ?_
 refine q_nil (r := ⟨q, 2, none⟩) rfl rfl ?_
 simp only [Act.put, zs, z0, z1]
 refine q_free rfl ?_
 refine q_pU (v0 := .int .u64 b.ul) (v1 := .int .u64 b.uh) rfl rfl (fun w h => (hq_q1).gr h) rfl rfl ?_
 simp only [Act.put, zs, z0, z1]
 refine q_free rfl ?_
 refine q_ld_bool (v := .bool true) rfl rfl (fun w h => (hPW_q1).gr h) rfl ?_
 simp only [Act.put, zs, z0, z1]
 refine q_free rfl ?_
 refine q_call2 rfl rfl rfl (fun w => by go_simp) (grc (fun w => k_spanOf_t PA w) (rfl)) ?_
 simp only [Act.put, zs, z0, z1]
 refine q_free rfl ?_
 refine q_nil (r := ⟨PA, 2, none⟩) rfl rfl ?_
 simp only [Act.put, zs, z0, z1]
 refine q_free rfl ?_
 refine q_pU (v0 := .int .u64 anyM.ul) (v1 := .int .u64 anyM.uh) rfl rfl (fun w h => (hPA_q1).gr h) rfl rfl ?_
 simp only [Act.put, zs, z0, z1]
 refine q_free rfl ?_
 refine q_move (v := .int .u8 1) rfl rfl ?_
 simp only [Act.put, zs, z0, z1]
 refine q_free rfl ?_
 refine q_cv_u641 rfl rfl ?_
 simp only [Act.put, zs, z0, z1]
 refine q_free rfl ?_
 refine q_call4 rfl rfl rfl rfl rfl (fun w => by go_simp) (grc (ca) (rfl)) ?_
 simp only [Act.put, zs, z0, z1]
 refine q_free rfl ?_
 refine q_move (v := .tuple #[.int .u64 M1, .int .u64 M2, .bool false]) rfl rfl ?_
 simp only [Act.put, zs, z0, z1]
 refine q_free rfl ?_
 refine q_extract (v := .int .u64 M1) rfl rfl rfl ?_
 simp only [Act.put, zs, z0, z1]
 refine q_free rfl ?_
 refine q_extract (v := .int .u64 M2) rfl rfl rfl ?_
 simp only [Act.put, zs, z0, z1]
 refine q_free rfl ?_
 refine q_extract (v := .bool false) rfl rfl rfl ?_
 simp only [Act.put, zs, z0, z1]
 refine q_free rfl ?_
 refine q_assign (v := .int .u64 M1) rfl rfl ?_
 simp only [Act.put, zs, z0, z1]
 refine q_free rfl ?_
 refine q_assign (v := .int .u64 M2) rfl rfl ?_
 simp only [Act.put, zs, z0, z1]
 refine q_free rfl ?_
 refine q_assign (v := .bool false) rfl rfl ?_
 simp only [Act.put, zs, z0, z1]
 intro wq2 hq2
 have hp_q2 := (hp_q1).gr hq2
 have hq_q2 := (hq_q1).gr hq2
 have hPW_q2 := (hPW_q1).gr hq2
 have hPA_q2 := (hPA_q1).gr hq2
 have hF_q2 := (hF_q1).then hq2
 go_upto_region 3 with fail
 refine rG ?_
 refine sF rfl ?_
 refine wM (v := .pointer (some ⟨p, 2, none⟩)) rfl rfl ?_
 simp only [Act.put, zs, z0, z1]
 refine sF rfl ?_
 refine wM (v := .pointer (some ⟨q, 2, none⟩)) rfl rfl ?_
 simp only [Act.put, zs, z0, z1]
 refine sF rfl ?_
 refine wM (v := .int .u64 M1) rfl rfl ?_
 simp only [Act.put, zs, z0, z1]
 refine sF rfl ?_
 refine wM (v := .int .u64 M2) rfl rfl ?_
 simp only [Act.put, zs, z0, z1]
 refine sF rfl ?_
 refine wp_nil (r := ⟨p, 2, none⟩) rfl rfl ?_
 simp only [Act.put, zs, z0, z1]
 refine sF rfl ?_
 refine wp_fU0 rfl rfl ?_
 simp only [Act.put, zs, z0, z1]
 refine sF rfl ?_
 refine wp_c_ul rfl rfl rfl (hp_q2) ?_
 intro ws3 hs3 gx3
 have hq_3 := (hq_q2).grx gx3 (Ne.symm hpq)
 have hPW_3 := (hPW_q2).grx gx3 (Ne.symm npPW)
 have hPA_3 := (hPA_q2).grx gx3 (Ne.symm npPA)
 have hF_3 := (hF_q2).thenx gx3 (.inl m21)
 change AtA ws3 p (bv { a with ul := M1 }) 30 at hs3
 simp only [Act.put, zs, z0, z1]
 refine sF rfl ?_
 refine wp_nil (r := ⟨q, 2, none⟩) rfl rfl ?_
 simp only [Act.put, zs, z0, z1]
 refine sF rfl ?_
 refine wp_fU1 rfl rfl ?_
 simp only [Act.put, zs, z0, z1]
 refine sF rfl ?_
 refine wp_c_uh rfl rfl rfl (hq_3) ?_
 intro ws4 hs4 gx4
 have hp_4 := (hs3).grx gx4 hpq
 have hPW_4 := (hPW_3).grx gx4 (Ne.symm nqPW)
 have hPA_4 := (hPA_3).grx gx4 (Ne.symm nqPA)
 have hF_4 := (hF_3).thenx gx4 (.inl m22)
 change AtA ws4 q (bv { b with uh := M2 }) 30 at hs4
 simp only [Act.put, zs, z0, z1]
 refine s_end ?_
 go_upto_region 4 with fail
 refine rG ?_
 refine sF rfl ?_
 refine wM (v := .bool false) rfl rfl ?_
 simp only [Act.put, zs, z0, z1]
 refine sF rfl ?_
 refine wA (v := .bool false) rfl rfl ?_
 simp only [Act.put, zs, z0, z1]
 refine s_end ?_
 go_wp2
 go_ret
 exact ⟨rfl, hF_4⟩
set_option maxHeartbeats 16000000 in
theorem ordU_f0o (a b : Bd) (p q : Nat) (w : World) (hpq : p ≠ q) (HA : AtA w p (bv a) 30) (HB : AtA w q (bv b) 30) (PW PA : Nat) (npPW : p ≠ PW) (nqPW : q ≠ PW) (npPA : p ≠ PA) (nqPA : q ≠ PA) (nPWPA : PW ≠ PA) (HW : AtA w PW #[.bool false] 4) (HL : AtA w PA (bv anyM) 30) (M1 M2 : Int) (ca : ∀ w, Calls Tryz.prog 278 #[.agg #[.int .u64 a.wl, .int .u64 a.wh], .agg #[.int .u64 b.wl, .int .u64 b.wh], .agg #[.int .u64 anyM.wl, .int .u64 anyM.wh], .int .u64 0] w fun e w' => e = .returned (.tuple #[.int .u64 M1, .int .u64 M2, .bool true]) ∧ Gr w w') : Calls Tryz.prog 277 #[.pointer (some ⟨p, 0, none⟩), .pointer (some ⟨q, 0, none⟩), .int .u8 0, .pointer (some ⟨PW, 0, none⟩), .pointer (some ⟨PA, 0, none⟩)] w fun e w' => e = .returned (.bool true) ∧ AtA w' p (bv { a with wl := M1 }) 30 ∧ AtA w' q (bv { b with wh := M2 }) 30 ∧ GrL [p, q] w w' := by
 go_enter Tryz.func277, Tryz.ntmps277
 go_upto_region 0 with fail
 refine rG ?_
 refine sF rfl ?_
 refine wA (v := .bool false) rfl rfl ?_
 simp only [Act.put, zs, z0, z1]
 refine s_end ?_
 go_upto_region 1 with fail
 refine wp_region_q (C := Gr w) (by kernel_rfl) (by kernel_rfl) (Gr.drew (Gr.refl _)) ?_
 refine q_free rfl ?_
 refine q_move (v := .pointer (some ⟨p, 0, none⟩)) rfl rfl ?_
 simp only [Act.put, zs, z0, z1]
 refine q_free rfl ?_
 refine q_ld_bool (v := .bool false) rfl rfl (fun w h => (HW).gr h) rfl ?_
 simp only [Act.put, zs, z0, z1]
 refine q_free rfl ?_
 refine q_call2 rfl rfl rfl (fun w => by go_simp) (grc (fun w => k_spanOf_f p w) (rfl)) ?_
 simp only [Act.put, zs, z0, z1]
 refine q_free rfl ?_
 refine q_move (v := .pointer (some ⟨q, 0, none⟩)) rfl rfl ?_
 simp only [Act.put, zs, z0, z1]
 refine q_free rfl ?_
 refine q_ld_bool (v := .bool false) rfl rfl (fun w h => (HW).gr h) rfl ?_
 simp only [Act.put, zs, z0, z1]
 refine q_free rfl ?_
 refine q_call2 rfl rfl rfl (fun w => by go_simp) (grc (fun w => k_spanOf_f q w) (rfl)) ?_
 simp only [Act.put, zs, z0, z1]
 refine q_free rfl ?_
 refine q_assign (v := .pointer (some ⟨p, 6, none⟩)) rfl rfl ?_
 simp only [Act.put, zs, z0, z1]
 refine q_free rfl ?_
 refine q_assign (v := .pointer (some ⟨q, 6, none⟩)) rfl rfl ?_
 simp only [Act.put, zs, z0, z1]
 intro wq1 hq1
 have hp_q1 := (HA).gr hq1
 have hq_q1 := (HB).gr hq1
 have hPW_q1 := (HW).gr hq1
 have hPA_q1 := (HL).gr hq1
 have hF_q1 := (GrL.refl [p, q] w).then hq1
 go_upto_region 2 with fail
 refine wp_region_q (C := Gr wq1) (by kernel_rfl) (by kernel_rfl) (Gr.drew (Gr.refl _)) ?_
 refine q_free rfl ?_
 refine q_move (v := .pointer (some ⟨p, 6, none⟩)) rfl rfl ?_
 simp only [Act.put, zs, z0, z1]
 refine q_free rfl ?_
 refine q_nil (r := ⟨p, 6, none⟩) rfl rfl ?_
 simp only [Act.put, zs, z0, z1]
 refine q_free rfl ?_
 refine q_pU (v0 := .int .u64 a.wl) (v1 := .int .u64 a.wh) rfl rfl (fun w h => (hp_q1).gr h) rfl rfl ?_
 simp only [Act.put, zs, z0, z1]
 refine q_free rfl ?_
 refine q_move (v := .pointer (some ⟨q, 6, none⟩)) rfl rfl ?_
 simp only [Act.put, zs, z0, z1]
 refine q_free rfl ?_
 refine q_nil (r := ⟨q, 6, none⟩) rfl rfl ?_
 simp only [Act.put, zs, z0, z1]
 refine q_free rfl ?_
 refine q_pU (v0 := .int .u64 b.wl) (v1 := .int .u64 b.wh) rfl rfl (fun w h => (hq_q1).gr h) rfl rfl ?_
 simp only [Act.put, zs, z0, z1]
 refine q_free rfl ?_
 refine q_ld_bool (v := .bool false) rfl rfl (fun w h => (hPW_q1).gr h) rfl ?_
 simp only [Act.put, zs, z0, z1]
 refine q_free rfl ?_
 refine q_call2 rfl rfl rfl (fun w => by go_simp) (grc (fun w => k_spanOf_f PA w) (rfl)) ?_
 simp only [Act.put, zs, z0, z1]
 refine q_free rfl ?_
 refine q_nil (r := ⟨PA, 6, none⟩) rfl rfl ?_
 simp only [Act.put, zs, z0, z1]
 refine q_free rfl ?_
 refine q_pU (v0 := .int .u64 anyM.wl) (v1 := .int .u64 anyM.wh) rfl rfl (fun w h => (hPA_q1).gr h) rfl rfl ?_
 simp only [Act.put, zs, z0, z1]
 refine q_free rfl ?_
 refine q_move (v := .int .u8 0) rfl rfl ?_
 simp only [Act.put, zs, z0, z1]
 refine q_free rfl ?_
 refine q_cv_u640 rfl rfl ?_
 simp only [Act.put, zs, z0, z1]
 refine q_free rfl ?_
 refine q_call4 rfl rfl rfl rfl rfl (fun w => by go_simp) (grc (ca) (rfl)) ?_
 simp only [Act.put, zs, z0, z1]
 refine q_free rfl ?_
 refine q_move (v := .tuple #[.int .u64 M1, .int .u64 M2, .bool true]) rfl rfl ?_
 simp only [Act.put, zs, z0, z1]
 refine q_free rfl ?_
 refine q_extract (v := .int .u64 M1) rfl rfl rfl ?_
 simp only [Act.put, zs, z0, z1]
 refine q_free rfl ?_
 refine q_extract (v := .int .u64 M2) rfl rfl rfl ?_
 simp only [Act.put, zs, z0, z1]
 refine q_free rfl ?_
 refine q_extract (v := .bool true) rfl rfl rfl ?_
 simp only [Act.put, zs, z0, z1]
 refine q_free rfl ?_
 refine q_assign (v := .int .u64 M1) rfl rfl ?_
 simp only [Act.put, zs, z0, z1]
 refine q_free rfl ?_
 refine q_assign (v := .int .u64 M2) rfl rfl ?_
 simp only [Act.put, zs, z0, z1]
 refine q_free rfl ?_
 refine q_assign (v := .bool true) rfl rfl ?_
 simp only [Act.put, zs, z0, z1]
 intro wq2 hq2
 have hp_q2 := (hp_q1).gr hq2
 have hq_q2 := (hq_q1).gr hq2
 have hPW_q2 := (hPW_q1).gr hq2
 have hPA_q2 := (hPA_q1).gr hq2
 have hF_q2 := (hF_q1).then hq2
 go_upto_region 3 with fail
 refine rG ?_
 refine sF rfl ?_
 refine wM (v := .pointer (some ⟨p, 6, none⟩)) rfl rfl ?_
 simp only [Act.put, zs, z0, z1]
 refine sF rfl ?_
 refine wM (v := .pointer (some ⟨q, 6, none⟩)) rfl rfl ?_
 simp only [Act.put, zs, z0, z1]
 refine sF rfl ?_
 refine wM (v := .int .u64 M1) rfl rfl ?_
 simp only [Act.put, zs, z0, z1]
 refine sF rfl ?_
 refine wM (v := .int .u64 M2) rfl rfl ?_
 simp only [Act.put, zs, z0, z1]
 refine sF rfl ?_
 refine wp_nil (r := ⟨p, 6, none⟩) rfl rfl ?_
 simp only [Act.put, zs, z0, z1]
 refine sF rfl ?_
 refine wp_fU0 rfl rfl ?_
 simp only [Act.put, zs, z0, z1]
 refine sF rfl ?_
 refine wp_c_wl rfl rfl rfl (hp_q2) ?_
 intro ws3 hs3 gx3
 have hq_3 := (hq_q2).grx gx3 (Ne.symm hpq)
 have hPW_3 := (hPW_q2).grx gx3 (Ne.symm npPW)
 have hPA_3 := (hPA_q2).grx gx3 (Ne.symm npPA)
 have hF_3 := (hF_q2).thenx gx3 (.inl m21)
 change AtA ws3 p (bv { a with wl := M1 }) 30 at hs3
 simp only [Act.put, zs, z0, z1]
 refine sF rfl ?_
 refine wp_nil (r := ⟨q, 6, none⟩) rfl rfl ?_
 simp only [Act.put, zs, z0, z1]
 refine sF rfl ?_
 refine wp_fU1 rfl rfl ?_
 simp only [Act.put, zs, z0, z1]
 refine sF rfl ?_
 refine wp_c_wh rfl rfl rfl (hq_3) ?_
 intro ws4 hs4 gx4
 have hp_4 := (hs3).grx gx4 hpq
 have hPW_4 := (hPW_3).grx gx4 (Ne.symm nqPW)
 have hPA_4 := (hPA_3).grx gx4 (Ne.symm nqPA)
 have hF_4 := (hF_3).thenx gx4 (.inl m22)
 change AtA ws4 q (bv { b with wh := M2 }) 30 at hs4
 simp only [Act.put, zs, z0, z1]
 refine s_end ?_
 go_upto_region 4 with fail
 refine rG ?_
 refine sF rfl ?_
 refine wM (v := .bool true) rfl rfl ?_
 simp only [Act.put, zs, z0, z1]
 refine sF rfl ?_
 refine wA (v := .bool true) rfl rfl ?_
 simp only [Act.put, zs, z0, z1]
 refine s_end ?_
 go_wp2
 go_ret
 exact ⟨rfl, hp_4, hs4, hF_4⟩
set_option maxHeartbeats 16000000 in
theorem ordU_f1o (a b : Bd) (p q : Nat) (w : World) (hpq : p ≠ q) (HA : AtA w p (bv a) 30) (HB : AtA w q (bv b) 30) (PW PA : Nat) (npPW : p ≠ PW) (nqPW : q ≠ PW) (npPA : p ≠ PA) (nqPA : q ≠ PA) (nPWPA : PW ≠ PA) (HW : AtA w PW #[.bool false] 4) (HL : AtA w PA (bv anyM) 30) (M1 M2 : Int) (ca : ∀ w, Calls Tryz.prog 278 #[.agg #[.int .u64 a.wl, .int .u64 a.wh], .agg #[.int .u64 b.wl, .int .u64 b.wh], .agg #[.int .u64 anyM.wl, .int .u64 anyM.wh], .int .u64 1] w fun e w' => e = .returned (.tuple #[.int .u64 M1, .int .u64 M2, .bool true]) ∧ Gr w w') : Calls Tryz.prog 277 #[.pointer (some ⟨p, 0, none⟩), .pointer (some ⟨q, 0, none⟩), .int .u8 1, .pointer (some ⟨PW, 0, none⟩), .pointer (some ⟨PA, 0, none⟩)] w fun e w' => e = .returned (.bool true) ∧ AtA w' p (bv { a with wl := M1 }) 30 ∧ AtA w' q (bv { b with wh := M2 }) 30 ∧ GrL [p, q] w w' := by
 go_enter Tryz.func277, Tryz.ntmps277
 go_upto_region 0 with fail
 refine rG ?_
 refine sF rfl ?_
 refine wA (v := .bool false) rfl rfl ?_
 simp only [Act.put, zs, z0, z1]
 refine s_end ?_
 go_upto_region 1 with fail
 refine wp_region_q (C := Gr w) (by kernel_rfl) (by kernel_rfl) (Gr.drew (Gr.refl _)) ?_
 refine q_free rfl ?_
 refine q_move (v := .pointer (some ⟨p, 0, none⟩)) rfl rfl ?_
 simp only [Act.put, zs, z0, z1]
 refine q_free rfl ?_
 refine q_ld_bool (v := .bool false) rfl rfl (fun w h => (HW).gr h) rfl ?_
 simp only [Act.put, zs, z0, z1]
 refine q_free rfl ?_
 refine q_call2 rfl rfl rfl (fun w => by go_simp) (grc (fun w => k_spanOf_f p w) (rfl)) ?_
 simp only [Act.put, zs, z0, z1]
 refine q_free rfl ?_
 refine q_move (v := .pointer (some ⟨q, 0, none⟩)) rfl rfl ?_
 simp only [Act.put, zs, z0, z1]
 refine q_free rfl ?_
 refine q_ld_bool (v := .bool false) rfl rfl (fun w h => (HW).gr h) rfl ?_
 simp only [Act.put, zs, z0, z1]
 refine q_free rfl ?_
 refine q_call2 rfl rfl rfl (fun w => by go_simp) (grc (fun w => k_spanOf_f q w) (rfl)) ?_
 simp only [Act.put, zs, z0, z1]
 refine q_free rfl ?_
 refine q_assign (v := .pointer (some ⟨p, 6, none⟩)) rfl rfl ?_
 simp only [Act.put, zs, z0, z1]
 refine q_free rfl ?_
 refine q_assign (v := .pointer (some ⟨q, 6, none⟩)) rfl rfl ?_
 simp only [Act.put, zs, z0, z1]
 intro wq1 hq1
 have hp_q1 := (HA).gr hq1
 have hq_q1 := (HB).gr hq1
 have hPW_q1 := (HW).gr hq1
 have hPA_q1 := (HL).gr hq1
 have hF_q1 := (GrL.refl [p, q] w).then hq1
 go_upto_region 2 with fail
 refine wp_region_q (C := Gr wq1) (by kernel_rfl) (by kernel_rfl) (Gr.drew (Gr.refl _)) ?_
 refine q_free rfl ?_
 refine q_move (v := .pointer (some ⟨p, 6, none⟩)) rfl rfl ?_
 simp only [Act.put, zs, z0, z1]
 refine q_free rfl ?_
 refine q_nil (r := ⟨p, 6, none⟩) rfl rfl ?_
 simp only [Act.put, zs, z0, z1]
 refine q_free rfl ?_
 refine q_pU (v0 := .int .u64 a.wl) (v1 := .int .u64 a.wh) rfl rfl (fun w h => (hp_q1).gr h) rfl rfl ?_
 simp only [Act.put, zs, z0, z1]
 refine q_free rfl ?_
 refine q_move (v := .pointer (some ⟨q, 6, none⟩)) rfl rfl ?_
 simp only [Act.put, zs, z0, z1]
 refine q_free rfl ?_
 refine q_nil (r := ⟨q, 6, none⟩) rfl rfl ?_
 simp only [Act.put, zs, z0, z1]
 refine q_free rfl ?_
 refine q_pU (v0 := .int .u64 b.wl) (v1 := .int .u64 b.wh) rfl rfl (fun w h => (hq_q1).gr h) rfl rfl ?_
 simp only [Act.put, zs, z0, z1]
 refine q_free rfl ?_
 refine q_ld_bool (v := .bool false) rfl rfl (fun w h => (hPW_q1).gr h) rfl ?_
 simp only [Act.put, zs, z0, z1]
 refine q_free rfl ?_
 refine q_call2 rfl rfl rfl (fun w => by go_simp) (grc (fun w => k_spanOf_f PA w) (rfl)) ?_
 simp only [Act.put, zs, z0, z1]
 refine q_free rfl ?_
 refine q_nil (r := ⟨PA, 6, none⟩) rfl rfl ?_
 simp only [Act.put, zs, z0, z1]
 refine q_free rfl ?_
 refine q_pU (v0 := .int .u64 anyM.wl) (v1 := .int .u64 anyM.wh) rfl rfl (fun w h => (hPA_q1).gr h) rfl rfl ?_
 simp only [Act.put, zs, z0, z1]
 refine q_free rfl ?_
 refine q_move (v := .int .u8 1) rfl rfl ?_
 simp only [Act.put, zs, z0, z1]
 refine q_free rfl ?_
 refine q_cv_u641 rfl rfl ?_
 simp only [Act.put, zs, z0, z1]
 refine q_free rfl ?_
 refine q_call4 rfl rfl rfl rfl rfl (fun w => by go_simp) (grc (ca) (rfl)) ?_
 simp only [Act.put, zs, z0, z1]
 refine q_free rfl ?_
 refine q_move (v := .tuple #[.int .u64 M1, .int .u64 M2, .bool true]) rfl rfl ?_
 simp only [Act.put, zs, z0, z1]
 refine q_free rfl ?_
 refine q_extract (v := .int .u64 M1) rfl rfl rfl ?_
 simp only [Act.put, zs, z0, z1]
 refine q_free rfl ?_
 refine q_extract (v := .int .u64 M2) rfl rfl rfl ?_
 simp only [Act.put, zs, z0, z1]
 refine q_free rfl ?_
 refine q_extract (v := .bool true) rfl rfl rfl ?_
 simp only [Act.put, zs, z0, z1]
 refine q_free rfl ?_
 refine q_assign (v := .int .u64 M1) rfl rfl ?_
 simp only [Act.put, zs, z0, z1]
 refine q_free rfl ?_
 refine q_assign (v := .int .u64 M2) rfl rfl ?_
 simp only [Act.put, zs, z0, z1]
 refine q_free rfl ?_
 refine q_assign (v := .bool true) rfl rfl ?_
 simp only [Act.put, zs, z0, z1]
 intro wq2 hq2
 have hp_q2 := (hp_q1).gr hq2
 have hq_q2 := (hq_q1).gr hq2
 have hPW_q2 := (hPW_q1).gr hq2
 have hPA_q2 := (hPA_q1).gr hq2
 have hF_q2 := (hF_q1).then hq2
 go_upto_region 3 with fail
 refine rG ?_
 refine sF rfl ?_
 refine wM (v := .pointer (some ⟨p, 6, none⟩)) rfl rfl ?_
 simp only [Act.put, zs, z0, z1]
 refine sF rfl ?_
 refine wM (v := .pointer (some ⟨q, 6, none⟩)) rfl rfl ?_
 simp only [Act.put, zs, z0, z1]
 refine sF rfl ?_
 refine wM (v := .int .u64 M1) rfl rfl ?_
 simp only [Act.put, zs, z0, z1]
 refine sF rfl ?_
 refine wM (v := .int .u64 M2) rfl rfl ?_
 simp only [Act.put, zs, z0, z1]
 refine sF rfl ?_
 refine wp_nil (r := ⟨p, 6, none⟩) rfl rfl ?_
 simp only [Act.put, zs, z0, z1]
 refine sF rfl ?_
 refine wp_fU0 rfl rfl ?_
 simp only [Act.put, zs, z0, z1]
 refine sF rfl ?_
 refine wp_c_wl rfl rfl rfl (hp_q2) ?_
 intro ws3 hs3 gx3
 have hq_3 := (hq_q2).grx gx3 (Ne.symm hpq)
 have hPW_3 := (hPW_q2).grx gx3 (Ne.symm npPW)
 have hPA_3 := (hPA_q2).grx gx3 (Ne.symm npPA)
 have hF_3 := (hF_q2).thenx gx3 (.inl m21)
 change AtA ws3 p (bv { a with wl := M1 }) 30 at hs3
 simp only [Act.put, zs, z0, z1]
 refine sF rfl ?_
 refine wp_nil (r := ⟨q, 6, none⟩) rfl rfl ?_
 simp only [Act.put, zs, z0, z1]
 refine sF rfl ?_
 refine wp_fU1 rfl rfl ?_
 simp only [Act.put, zs, z0, z1]
 refine sF rfl ?_
 refine wp_c_wh rfl rfl rfl (hq_3) ?_
 intro ws4 hs4 gx4
 have hp_4 := (hs3).grx gx4 hpq
 have hPW_4 := (hPW_3).grx gx4 (Ne.symm nqPW)
 have hPA_4 := (hPA_3).grx gx4 (Ne.symm nqPA)
 have hF_4 := (hF_3).thenx gx4 (.inl m22)
 change AtA ws4 q (bv { b with wh := M2 }) 30 at hs4
 simp only [Act.put, zs, z0, z1]
 refine s_end ?_
 go_upto_region 4 with fail
 refine rG ?_
 refine sF rfl ?_
 refine wM (v := .bool true) rfl rfl ?_
 simp only [Act.put, zs, z0, z1]
 refine sF rfl ?_
 refine wA (v := .bool true) rfl rfl ?_
 simp only [Act.put, zs, z0, z1]
 refine s_end ?_
 go_wp2
 go_ret
 exact ⟨rfl, hp_4, hs4, hF_4⟩
set_option maxHeartbeats 16000000 in
theorem ordU_f1n (a b : Bd) (p q : Nat) (w : World) (hpq : p ≠ q) (HA : AtA w p (bv a) 30) (HB : AtA w q (bv b) 30) (PW PA : Nat) (npPW : p ≠ PW) (nqPW : q ≠ PW) (npPA : p ≠ PA) (nqPA : q ≠ PA) (nPWPA : PW ≠ PA) (HW : AtA w PW #[.bool false] 4) (HL : AtA w PA (bv anyM) 30) (M1 M2 : Int) (ca : ∀ w, Calls Tryz.prog 278 #[.agg #[.int .u64 a.wl, .int .u64 a.wh], .agg #[.int .u64 b.wl, .int .u64 b.wh], .agg #[.int .u64 anyM.wl, .int .u64 anyM.wh], .int .u64 1] w fun e w' => e = .returned (.tuple #[.int .u64 M1, .int .u64 M2, .bool false]) ∧ Gr w w') : Calls Tryz.prog 277 #[.pointer (some ⟨p, 0, none⟩), .pointer (some ⟨q, 0, none⟩), .int .u8 1, .pointer (some ⟨PW, 0, none⟩), .pointer (some ⟨PA, 0, none⟩)] w fun e w' => e = .returned (.bool false) ∧ GrL [p, q] w w' := by
 go_enter Tryz.func277, Tryz.ntmps277
 go_upto_region 0 with fail
 refine rG ?_
 refine sF rfl ?_
 refine wA (v := .bool false) rfl rfl ?_
 simp only [Act.put, zs, z0, z1]
 refine s_end ?_
 go_upto_region 1 with fail
 refine wp_region_q (C := Gr w) (by kernel_rfl) (by kernel_rfl) (Gr.drew (Gr.refl _)) ?_
 refine q_free rfl ?_
 refine q_move (v := .pointer (some ⟨p, 0, none⟩)) rfl rfl ?_
 simp only [Act.put, zs, z0, z1]
 refine q_free rfl ?_
 refine q_ld_bool (v := .bool false) rfl rfl (fun w h => (HW).gr h) rfl ?_
 simp only [Act.put, zs, z0, z1]
 refine q_free rfl ?_
 refine q_call2 rfl rfl rfl (fun w => by go_simp) (grc (fun w => k_spanOf_f p w) (rfl)) ?_
 simp only [Act.put, zs, z0, z1]
 refine q_free rfl ?_
 refine q_move (v := .pointer (some ⟨q, 0, none⟩)) rfl rfl ?_
 simp only [Act.put, zs, z0, z1]
 refine q_free rfl ?_
 refine q_ld_bool (v := .bool false) rfl rfl (fun w h => (HW).gr h) rfl ?_
 simp only [Act.put, zs, z0, z1]
 refine q_free rfl ?_
 refine q_call2 rfl rfl rfl (fun w => by go_simp) (grc (fun w => k_spanOf_f q w) (rfl)) ?_
 simp only [Act.put, zs, z0, z1]
 refine q_free rfl ?_
 refine q_assign (v := .pointer (some ⟨p, 6, none⟩)) rfl rfl ?_
 simp only [Act.put, zs, z0, z1]
 refine q_free rfl ?_
 refine q_assign (v := .pointer (some ⟨q, 6, none⟩)) rfl rfl ?_
 simp only [Act.put, zs, z0, z1]
 intro wq1 hq1
 have hp_q1 := (HA).gr hq1
 have hq_q1 := (HB).gr hq1
 have hPW_q1 := (HW).gr hq1
 have hPA_q1 := (HL).gr hq1
 have hF_q1 := (GrL.refl [p, q] w).then hq1
 go_upto_region 2 with fail
 refine wp_region_q (C := Gr wq1) (by kernel_rfl) (by kernel_rfl) (Gr.drew (Gr.refl _)) ?_
 refine q_free rfl ?_
 refine q_move (v := .pointer (some ⟨p, 6, none⟩)) rfl rfl ?_
 simp only [Act.put, zs, z0, z1]
 refine q_free rfl ?_
 refine q_nil (r := ⟨p, 6, none⟩) rfl rfl ?_
 simp only [Act.put, zs, z0, z1]
 refine q_free rfl ?_
 refine q_pU (v0 := .int .u64 a.wl) (v1 := .int .u64 a.wh) rfl rfl (fun w h => (hp_q1).gr h) rfl rfl ?_
 simp only [Act.put, zs, z0, z1]
 refine q_free rfl ?_
 refine q_move (v := .pointer (some ⟨q, 6, none⟩)) rfl rfl ?_
 simp only [Act.put, zs, z0, z1]
 refine q_free rfl ?_
 refine q_nil (r := ⟨q, 6, none⟩) rfl rfl ?_
 simp only [Act.put, zs, z0, z1]
 refine q_free rfl ?_
 refine q_pU (v0 := .int .u64 b.wl) (v1 := .int .u64 b.wh) rfl rfl (fun w h => (hq_q1).gr h) rfl rfl ?_
 simp only [Act.put, zs, z0, z1]
 refine q_free rfl ?_
 refine q_ld_bool (v := .bool false) rfl rfl (fun w h => (hPW_q1).gr h) rfl ?_
 simp only [Act.put, zs, z0, z1]
 refine q_free rfl ?_
 refine q_call2 rfl rfl rfl (fun w => by go_simp) (grc (fun w => k_spanOf_f PA w) (rfl)) ?_
 simp only [Act.put, zs, z0, z1]
 refine q_free rfl ?_
 refine q_nil (r := ⟨PA, 6, none⟩) rfl rfl ?_
 simp only [Act.put, zs, z0, z1]
 refine q_free rfl ?_
 refine q_pU (v0 := .int .u64 anyM.wl) (v1 := .int .u64 anyM.wh) rfl rfl (fun w h => (hPA_q1).gr h) rfl rfl ?_
 simp only [Act.put, zs, z0, z1]
 refine q_free rfl ?_
 refine q_move (v := .int .u8 1) rfl rfl ?_
 simp only [Act.put, zs, z0, z1]
 refine q_free rfl ?_
 refine q_cv_u641 rfl rfl ?_
 simp only [Act.put, zs, z0, z1]
 refine q_free rfl ?_
 refine q_call4 rfl rfl rfl rfl rfl (fun w => by go_simp) (grc (ca) (rfl)) ?_
 simp only [Act.put, zs, z0, z1]
 refine q_free rfl ?_
 refine q_move (v := .tuple #[.int .u64 M1, .int .u64 M2, .bool false]) rfl rfl ?_
 simp only [Act.put, zs, z0, z1]
 refine q_free rfl ?_
 refine q_extract (v := .int .u64 M1) rfl rfl rfl ?_
 simp only [Act.put, zs, z0, z1]
 refine q_free rfl ?_
 refine q_extract (v := .int .u64 M2) rfl rfl rfl ?_
 simp only [Act.put, zs, z0, z1]
 refine q_free rfl ?_
 refine q_extract (v := .bool false) rfl rfl rfl ?_
 simp only [Act.put, zs, z0, z1]
 refine q_free rfl ?_
 refine q_assign (v := .int .u64 M1) rfl rfl ?_
 simp only [Act.put, zs, z0, z1]
 refine q_free rfl ?_
 refine q_assign (v := .int .u64 M2) rfl rfl ?_
 simp only [Act.put, zs, z0, z1]
 refine q_free rfl ?_
 refine q_assign (v := .bool false) rfl rfl ?_
 simp only [Act.put, zs, z0, z1]
 intro wq2 hq2
 have hp_q2 := (hp_q1).gr hq2
 have hq_q2 := (hq_q1).gr hq2
 have hPW_q2 := (hPW_q1).gr hq2
 have hPA_q2 := (hPA_q1).gr hq2
 have hF_q2 := (hF_q1).then hq2
 go_upto_region 3 with fail
 refine rG ?_
 refine sF rfl ?_
 refine wM (v := .pointer (some ⟨p, 6, none⟩)) rfl rfl ?_
 simp only [Act.put, zs, z0, z1]
 refine sF rfl ?_
 refine wM (v := .pointer (some ⟨q, 6, none⟩)) rfl rfl ?_
 simp only [Act.put, zs, z0, z1]
 refine sF rfl ?_
 refine wM (v := .int .u64 M1) rfl rfl ?_
 simp only [Act.put, zs, z0, z1]
 refine sF rfl ?_
 refine wM (v := .int .u64 M2) rfl rfl ?_
 simp only [Act.put, zs, z0, z1]
 refine sF rfl ?_
 refine wp_nil (r := ⟨p, 6, none⟩) rfl rfl ?_
 simp only [Act.put, zs, z0, z1]
 refine sF rfl ?_
 refine wp_fU0 rfl rfl ?_
 simp only [Act.put, zs, z0, z1]
 refine sF rfl ?_
 refine wp_c_wl rfl rfl rfl (hp_q2) ?_
 intro ws3 hs3 gx3
 have hq_3 := (hq_q2).grx gx3 (Ne.symm hpq)
 have hPW_3 := (hPW_q2).grx gx3 (Ne.symm npPW)
 have hPA_3 := (hPA_q2).grx gx3 (Ne.symm npPA)
 have hF_3 := (hF_q2).thenx gx3 (.inl m21)
 change AtA ws3 p (bv { a with wl := M1 }) 30 at hs3
 simp only [Act.put, zs, z0, z1]
 refine sF rfl ?_
 refine wp_nil (r := ⟨q, 6, none⟩) rfl rfl ?_
 simp only [Act.put, zs, z0, z1]
 refine sF rfl ?_
 refine wp_fU1 rfl rfl ?_
 simp only [Act.put, zs, z0, z1]
 refine sF rfl ?_
 refine wp_c_wh rfl rfl rfl (hq_3) ?_
 intro ws4 hs4 gx4
 have hp_4 := (hs3).grx gx4 hpq
 have hPW_4 := (hPW_3).grx gx4 (Ne.symm nqPW)
 have hPA_4 := (hPA_3).grx gx4 (Ne.symm nqPA)
 have hF_4 := (hF_3).thenx gx4 (.inl m22)
 change AtA ws4 q (bv { b with wh := M2 }) 30 at hs4
 simp only [Act.put, zs, z0, z1]
 refine s_end ?_
 go_upto_region 4 with fail
 refine rG ?_
 refine sF rfl ?_
 refine wM (v := .bool false) rfl rfl ?_
 simp only [Act.put, zs, z0, z1]
 refine sF rfl ?_
 refine wA (v := .bool false) rfl rfl ?_
 simp only [Act.put, zs, z0, z1]
 refine s_end ?_
 go_wp2
 go_ret
 exact ⟨rfl, hF_4⟩
theorem ordU_t0 (a b : Bd) (ga : Good a) (gb : Good b) (p q : Nat) (w : World) (hpq : p ≠ q) (HA : AtA w p (bv a) 30) (HB : AtA w q (bv b) 30) (PW PA : Nat) (npPW : p ≠ PW) (nqPW : q ≠ PW) (npPA : p ≠ PA) (nqPA : q ≠ PA) (nPWPA : PW ≠ PA) (HW : AtA w PW #[.bool true] 4) (HL : AtA w PA (bv anyM) 30) : Calls Tryz.prog 277 #[.pointer (some ⟨p, 0, none⟩), .pointer (some ⟨q, 0, none⟩), .int .u8 0, .pointer (some ⟨PW, 0, none⟩), .pointer (some ⟨PA, 0, none⟩)] w (tellPost p q (gtU true 0 a b) w) := by
 have i0 := ga.u0; have i1 := ga.u1; have i2 := ga.u2; have j0 := gb.u0; have j1 := gb.u1; have j2 := gb.u2
 unfold gtU
 simp only [if_true]
 rw [if_neg (by omega)]
 exact ordU_t0o a b p q w hpq HA HB PW PA npPW nqPW npPA nqPA nPWPA HW HL _ _ (fun w => k_apart_u64_0 _ _ _ _ _ _ (wrap_inU (by unfold InU; omega)) (wrap_inU (by unfold InU; omega)) w)
theorem ordU_t1 (a b : Bd) (ga : Good a) (gb : Good b) (p q : Nat) (w : World) (hpq : p ≠ q) (HA : AtA w p (bv a) 30) (HB : AtA w q (bv b) 30) (PW PA : Nat) (npPW : p ≠ PW) (nqPW : q ≠ PW) (npPA : p ≠ PA) (nqPA : q ≠ PA) (nPWPA : PW ≠ PA) (HW : AtA w PW #[.bool true] 4) (HL : AtA w PA (bv anyM) 30) : Calls Tryz.prog 277 #[.pointer (some ⟨p, 0, none⟩), .pointer (some ⟨q, 0, none⟩), .int .u8 1, .pointer (some ⟨PW, 0, none⟩), .pointer (some ⟨PA, 0, none⟩)] w (tellPost p q (gtU true 1 a b) w) := by
 have i0 := ga.u0; have i1 := ga.u1; have i2 := ga.u2; have j0 := gb.u0; have j1 := gb.u1; have j2 := gb.u2
 unfold gtU
 simp only [if_true]
 by_cases g1 : 18446744073709551615 ≤ b.ul
 ·rw [if_pos ⟨by decide, .inl g1⟩]
  exact ordU_t1n a b p q w hpq HA HB PW PA npPW nqPW npPA nqPA nPWPA HW HL _ _ (fun w => k_apart_u64_na _ _ _ _ _ _ g1 w)
 ·by_cases g2 : a.uh ≤ 0
  ·rw [if_pos ⟨by decide, .inr g2⟩]
   exact ordU_t1n a b p q w hpq HA HB PW PA npPW nqPW npPA nqPA nPWPA HW HL _ _ (fun w => k_apart_u64_nb _ _ _ _ _ _ (Int.not_le.1 g1) g2 w)
  ·rw [if_neg (by omega)]
   exact ordU_t1o a b p q w hpq HA HB PW PA npPW nqPW npPA nqPA nPWPA HW HL _ _ (fun w => k_apart_u64_1 _ _ _ _ _ _ (Int.not_le.1 g1) (Int.not_le.1 g2) (wrap_inU (by unfold InU; omega)) (wrap_inU (by unfold InU; omega)) w)
theorem ordU_f0 (a b : Bd) (ga : Good a) (gb : Good b) (p q : Nat) (w : World) (hpq : p ≠ q) (HA : AtA w p (bv a) 30) (HB : AtA w q (bv b) 30) (PW PA : Nat) (npPW : p ≠ PW) (nqPW : q ≠ PW) (npPA : p ≠ PA) (nqPA : q ≠ PA) (nPWPA : PW ≠ PA) (HW : AtA w PW #[.bool false] 4) (HL : AtA w PA (bv anyM) 30) : Calls Tryz.prog 277 #[.pointer (some ⟨p, 0, none⟩), .pointer (some ⟨q, 0, none⟩), .int .u8 0, .pointer (some ⟨PW, 0, none⟩), .pointer (some ⟨PA, 0, none⟩)] w (tellPost p q (gtU false 0 a b) w) := by
 have i0 := ga.w0; have i1 := ga.w1; have i2 := ga.w2; have j0 := gb.w0; have j1 := gb.w1; have j2 := gb.w2
 unfold gtU
 simp only [Bool.false_eq_true, if_false]
 rw [if_neg (by omega)]
 exact ordU_f0o a b p q w hpq HA HB PW PA npPW nqPW npPA nqPA nPWPA HW HL _ _ (fun w => k_apart_u64_0 _ _ _ _ _ _ (wrap_inU (by unfold InU; omega)) (wrap_inU (by unfold InU; omega)) w)
theorem ordU_f1 (a b : Bd) (ga : Good a) (gb : Good b) (p q : Nat) (w : World) (hpq : p ≠ q) (HA : AtA w p (bv a) 30) (HB : AtA w q (bv b) 30) (PW PA : Nat) (npPW : p ≠ PW) (nqPW : q ≠ PW) (npPA : p ≠ PA) (nqPA : q ≠ PA) (nPWPA : PW ≠ PA) (HW : AtA w PW #[.bool false] 4) (HL : AtA w PA (bv anyM) 30) : Calls Tryz.prog 277 #[.pointer (some ⟨p, 0, none⟩), .pointer (some ⟨q, 0, none⟩), .int .u8 1, .pointer (some ⟨PW, 0, none⟩), .pointer (some ⟨PA, 0, none⟩)] w (tellPost p q (gtU false 1 a b) w) := by
 have i0 := ga.w0; have i1 := ga.w1; have i2 := ga.w2; have j0 := gb.w0; have j1 := gb.w1; have j2 := gb.w2
 unfold gtU
 simp only [Bool.false_eq_true, if_false]
 by_cases g1 : 4294967295 ≤ b.wl
 ·rw [if_pos ⟨by decide, .inl g1⟩]
  exact ordU_f1n a b p q w hpq HA HB PW PA npPW nqPW npPA nqPA nPWPA HW HL _ _ (fun w => k_apart_u64_na _ _ _ _ _ _ g1 w)
 ·by_cases g2 : a.wh ≤ 0
  ·rw [if_pos ⟨by decide, .inr g2⟩]
   exact ordU_f1n a b p q w hpq HA HB PW PA npPW nqPW npPA nqPA nPWPA HW HL _ _ (fun w => k_apart_u64_nb _ _ _ _ _ _ (Int.not_le.1 g1) g2 w)
  ·rw [if_neg (by omega)]
   exact ordU_f1o a b p q w hpq HA HB PW PA npPW nqPW npPA nqPA nPWPA HW HL _ _ (fun w => k_apart_u64_1 _ _ _ _ _ _ (Int.not_le.1 g1) (Int.not_le.1 g2) (wrap_inU (by unfold InU; omega)) (wrap_inU (by unfold InU; omega)) w)
end Go.Proofs.YtcbcijibgpaipaaGreat
