/- Towards the statements of package cond (layer 6): the document's example. -/
import Derived.Test.YtcbcijibgpaipaaGreatCW
import Derived.KernelRfl
import Derived.Deep.DeepCutAuto
namespace Go.Proofs.YtcbcijibgpaipaaGreat
open Go.ChangeShapes Go.WideShapes Go.ChangeAt Go.RowKit
open Tn (iv)
set_option linter.unusedVariables false
set_option linter.unusedSimpArgs false
set_option maxRecDepth 20000

theorem good_any : Good anyM := by
 refine ⟨?_, ?_, ?_, ?_, ?_, ?_, ?_, ?_, ?_, ?_, ?_, ?_, ?_⟩ <;> decide
theorem wr1 : (refM (tellM 2 true true anyM (constM 7#64))).isSome = true := by kernel_rfl
theorem wr2 : (rx (refM (tellM 2 true true anyM (constM 7#64)))).ul = 8 := by kernel_rfl
theorem wr3 : (rx (refM (tellM 2 true true anyM (constM 7#64)))).uh = 18446744073709551615 := by kernel_rfl
theorem wr4 : (refM (tellM 1 true false (constM 3#64) (constM 3#64))).isSome = false := by kernel_rfl
theorem wp_eqE {o : Oper} {a : Act} {w : World} {K : Act → World → Prop} {Q : Exit → Act → World → Prop} {x : Operand} {n : Int} (ho : o.op = .binOp .eql 44 x (.const (.int .i64 n)) 44) (hx : a.eval x = .int .i64 n) (hK : K (a.put o.dst (.bool true)) w) : o.wp Tryz.prog a w K Q := by
 obtain ⟨dst, op, ty, pos, after, guard⟩ := o
 subst ho
 unfold Oper.wp
 simp only [execOp, hx]
 go_simp
 exact hK
theorem wp_bldU {o : Oper} {a : Act} {w : World} {K : Act → World → Prop} {Q : Exit → Act → World → Prop} {n m : Int} (ho : o.op = .build 26 #[(0, .const (.int .u64 n)), (1, .const (.int .u64 m))]) (hK : K (a.put o.dst (.agg #[.int .u64 n, .int .u64 m])) w) : o.wp Tryz.prog a w K Q := by
 obtain ⟨dst, op, ty, pos, after, guard⟩ := o
 subst ho
 unfold Oper.wp
 simp only [execOp]
 go_simp
 exact hK
theorem wp_eqU {o : Oper} {a : Act} {w : World} {K : Act → World → Prop} {Q : Exit → Act → World → Prop} {x y : Operand} {n m n' m' : Int} (ho : o.op = .binOp .eql 26 x y 26) (hx : a.eval x = .agg #[.int .u64 n, .int .u64 m]) (hy : a.eval y = .agg #[.int .u64 n', .int .u64 m']) (h1 : n = n') (h2 : m = m') (hK : K (a.put o.dst (.bool true)) w) : o.wp Tryz.prog a w K Q := by
 subst h1
 subst h2
 obtain ⟨dst, op, ty, pos, after, guard⟩ := o
 subst ho
 unfold Oper.wp
 simp only [execOp, hx, hy]
 go_simp
 exact hK
set_option maxHeartbeats 16000000 in
theorem works_go (AN C7 C3 R1 R2 : Bd) (u1 : R1.ul = 8) (u2 : R1.uh = 18446744073709551615) (ca : ∀ w, Calls Tryz.prog 59 #[] w fun e w' => e = .returned (.agg (bv AN)) ∧ Gr w w') (c7 : ∀ w, Calls Tryz.prog 13 #[.int .u64 7] w fun e w' => e = .returned (.agg (bv C7)) ∧ Gr w w') (c3 : ∀ w, Calls Tryz.prog 13 #[.int .u64 3] w fun e w' => e = .returned (.agg (bv C3)) ∧ Gr w w')
  (cr : ∀ w, Calls Tryz.prog 29 #[.int .u8 2, .bool true, .bool true, .agg (bv AN), .agg (bv C7)] w fun e w' => e = .returned (.tuple #[.agg (bv R1), .agg (bv R2), .bool true, .int .i64 0]) ∧ Gr w w')
  (cs : ∀ w, Calls Tryz.prog 30 #[.int .u8 1, .bool true, .agg (bv C3), .agg (bv C3)] w fun e w' => e = .returned (.tuple #[.bool true, .bool true, .int .i64 0]) ∧ Gr w w') (w : World) : Calls Tryz.prog 32 #[] w fun e w' => e = .returned (.bool true) ∧ Gr w w' := by
 go_enter Tryz.func32, Tryz.ntmps32
 go_upto_region 0 with fail
 refine rG ?_
 refine sF rfl ?_
 refine wA (v := .bool false) rfl rfl ?_
 simp only [Act.put, zs, z0, z1]
 refine s_end ?_
 go_upto_region 1 with fail
 refine rG ?_
 refine sF rfl ?_
 refine wp_call0 rfl (by go_simp) ?_
 refine ((ca) _).mono ?_
 rintro e wk1 ⟨rfl, hk1⟩
 refine ⟨_, rfl, ?_⟩
 have hF_1 := (GrL.refl [] w).then hk1
 simp only [Act.put, zs, z0, z1]
 refine sF rfl ?_
 refine wp_call1 rfl rfl (by go_simp) ?_
 refine ((c7) _).mono ?_
 rintro e wk2 ⟨rfl, hk2⟩
 refine ⟨_, rfl, ?_⟩
 have hF_2 := (hF_1).then hk2
 simp only [Act.put, zs, z0, z1]
 refine sF rfl ?_
 refine wp_call5 rfl rfl rfl rfl rfl rfl (by go_simp) ?_
 refine ((cr) _).mono ?_
 rintro e wk3 ⟨rfl, hk3⟩
 refine ⟨_, rfl, ?_⟩
 have hF_3 := (hF_2).then hk3
 simp only [Act.put, zs, z0, z1]
 refine sF rfl ?_
 refine wM (v := .tuple #[.agg (bv R1), .agg (bv R2), .bool true, .int .i64 0]) rfl rfl ?_
 simp only [Act.put, zs, z0, z1]
 refine sF rfl ?_
 refine wp_extract (v := .agg (bv R1)) rfl rfl rfl ?_
 simp only [Act.put, zs, z0, z1]
 refine sF rfl ?_
 refine wp_extract (v := .agg (bv R2)) rfl rfl rfl ?_
 simp only [Act.put, zs, z0, z1]
 refine sF rfl ?_
 refine wp_extract (v := .bool true) rfl rfl rfl ?_
 simp only [Act.put, zs, z0, z1]
 refine sF rfl ?_
 refine wp_extract (v := .int .i64 0) rfl rfl rfl ?_
 simp only [Act.put, zs, z0, z1]
 refine sF rfl ?_
 refine wp_allocB rfl ?_
 intro ws4 hn4 hg4
 obtain ⟨PN4, hb4⟩ : ∃ b, wk3.heap.size = b := ⟨_, rfl⟩
 rw [hb4] at hn4 ⊢
 have hge4 := Nat.le_trans (hF_3).size (Nat.le_of_eq hb4)
 have hF_4 := (hF_3).then hg4
 simp only [Act.put, zs, z0, z1]
 refine sF rfl ?_
 refine wp_allocB rfl ?_
 intro ws5 hn5 hg5
 obtain ⟨PN5, hb5⟩ : ∃ b, ws4.heap.size = b := ⟨_, rfl⟩
 rw [hb5] at hn5 ⊢
 have hge5 := Nat.le_trans (hF_4).size (Nat.le_of_eq hb5)
 have hnePN4_PN5 : PN4 ≠ PN5 := nl (hn4).lt hb5
 have hPN4_5 := (hn4).gr hg5
 have hF_5 := (hF_4).then hg5
 simp only [Act.put, zs, z0, z1]
 refine sF rfl ?_
 refine wp_storeB rfl rfl rfl (hPN4_5) ?_
 intro ws6 hs6 gx6
 have hPN5_6 := (hn5).grx gx6 (Ne.symm hnePN4_PN5)
 have hF_6 := (hF_5).thenx gx6 (.inr hge4)
 change AtA ws6 PN4 (bv R1) 30 at hs6
 simp only [Act.put, zs, z0, z1]
 refine sF rfl ?_
 refine wp_storeB rfl rfl rfl (hPN5_6) ?_
 intro ws7 hs7 gx7
 have hPN4_7 := (hs6).grx gx7 hnePN4_PN5
 have hF_7 := (hF_6).thenx gx7 (.inr hge5)
 change AtA ws7 PN5 (bv R2) 30 at hs7
 simp only [Act.put, zs, z0, z1]
 refine sF rfl ?_
 refine wA (v := .bool true) rfl rfl ?_
 simp only [Act.put, zs, z0, z1]
 refine sF rfl ?_
 refine wA (v := .int .i64 0) rfl rfl ?_
 simp only [Act.put, zs, z0, z1]
 refine s_end ?_
 go_upto_region 2 with fail
 refine rG ?_
 refine sF rfl ?_
 refine wp_call1 rfl rfl (by go_simp) ?_
 refine ((c3) _).mono ?_
 rintro e wk8 ⟨rfl, hk8⟩
 refine ⟨_, rfl, ?_⟩
 have hPN4_8 := (hPN4_7).gr hk8
 have hPN5_8 := (hs7).gr hk8
 have hF_8 := (hF_7).then hk8
 simp only [Act.put, zs, z0, z1]
 refine sF rfl ?_
 refine wp_call1 rfl rfl (by go_simp) ?_
 refine ((c3) _).mono ?_
 rintro e wk9 ⟨rfl, hk9⟩
 refine ⟨_, rfl, ?_⟩
 have hPN4_9 := (hPN4_8).gr hk9
 have hPN5_9 := (hPN5_8).gr hk9
 have hF_9 := (hF_8).then hk9
 simp only [Act.put, zs, z0, z1]
 refine sF rfl ?_
 refine wp_call4 rfl rfl rfl rfl rfl (by go_simp) ?_
 refine ((cs) _).mono ?_
 rintro e wk10 ⟨rfl, hk10⟩
 refine ⟨_, rfl, ?_⟩
 have hPN4_10 := (hPN4_9).gr hk10
 have hPN5_10 := (hPN5_9).gr hk10
 have hF_10 := (hF_9).then hk10
 simp only [Act.put, zs, z0, z1]
 refine sF rfl ?_
 refine wM (v := .tuple #[.bool true, .bool true, .int .i64 0]) rfl rfl ?_
 simp only [Act.put, zs, z0, z1]
 refine sF rfl ?_
 refine wp_extract (v := .bool true) rfl rfl rfl ?_
 simp only [Act.put, zs, z0, z1]
 refine sF rfl ?_
 refine wp_extract (v := .bool true) rfl rfl rfl ?_
 simp only [Act.put, zs, z0, z1]
 refine sF rfl ?_
 refine wp_extract (v := .int .i64 0) rfl rfl rfl ?_
 simp only [Act.put, zs, z0, z1]
 refine sF rfl ?_
 refine wA (v := .bool true) rfl rfl ?_
 simp only [Act.put, zs, z0, z1]
 refine sF rfl ?_
 refine wA (v := .bool true) rfl rfl ?_
 simp only [Act.put, zs, z0, z1]
 refine sF rfl ?_
 refine wA (v := .int .i64 0) rfl rfl ?_
 simp only [Act.put, zs, z0, z1]
 refine s_end ?_
 go_upto_region 3 with fail
 refine rG ?_
 refine sF rfl ?_
 refine wp_call0 rfl (by go_simp) ?_
 refine ((ca) _).mono ?_
 rintro e wk11 ⟨rfl, hk11⟩
 refine ⟨_, rfl, ?_⟩
 have hPN4_11 := (hPN4_10).gr hk11
 have hPN5_11 := (hPN5_10).gr hk11
 have hF_11 := (hF_10).then hk11
 simp only [Act.put, zs, z0, z1]
 refine sF rfl ?_
 refine wp_call0 rfl (by go_simp) ?_
 refine ((ca) _).mono ?_
 rintro e wk12 ⟨rfl, hk12⟩
 refine ⟨_, rfl, ?_⟩
 have hPN4_12 := (hPN4_11).gr hk12
 have hPN5_12 := (hPN5_11).gr hk12
 have hF_12 := (hF_11).then hk12
 simp only [Act.put, zs, z0, z1]
 refine sF rfl ?_
 refine wp_call5 rfl rfl rfl rfl rfl rfl (by go_simp) ?_
 refine ((fun w => ref_8 true AN AN w) _).mono ?_
 rintro e wk13 ⟨rfl, hk13⟩
 refine ⟨_, rfl, ?_⟩
 have hPN4_13 := (hPN4_12).gr hk13
 have hPN5_13 := (hPN5_12).gr hk13
 have hF_13 := (hF_12).then hk13
 simp only [Act.put, zs, z0, z1]
 refine sF rfl ?_
 refine wM (v := .tuple #[.agg (bv zeroM), .agg (bv zeroM), .bool false, .int .i64 20]) rfl rfl ?_
 simp only [Act.put, zs, z0, z1]
 refine sF rfl ?_
 refine wp_extract (v := .agg (bv zeroM)) rfl rfl rfl ?_
 simp only [Act.put, zs, z0, z1]
 refine sF rfl ?_
 refine wp_extract (v := .agg (bv zeroM)) rfl rfl rfl ?_
 simp only [Act.put, zs, z0, z1]
 refine sF rfl ?_
 refine wp_extract (v := .bool false) rfl rfl rfl ?_
 simp only [Act.put, zs, z0, z1]
 refine sF rfl ?_
 refine wp_extract (v := .int .i64 20) rfl rfl rfl ?_
 simp only [Act.put, zs, z0, z1]
 refine sF rfl ?_
 refine wp_allocB rfl ?_
 intro ws14 hn14 hg14
 obtain ⟨PN14, hb14⟩ : ∃ b, wk13.heap.size = b := ⟨_, rfl⟩
 rw [hb14] at hn14 ⊢
 have hge14 := Nat.le_trans (hF_13).size (Nat.le_of_eq hb14)
 have hnePN4_PN14 : PN4 ≠ PN14 := nl (hPN4_13).lt hb14
 have hnePN5_PN14 : PN5 ≠ PN14 := nl (hPN5_13).lt hb14
 have hPN4_14 := (hPN4_13).gr hg14
 have hPN5_14 := (hPN5_13).gr hg14
 have hF_14 := (hF_13).then hg14
 simp only [Act.put, zs, z0, z1]
 refine sF rfl ?_
 refine wp_allocB rfl ?_
 intro ws15 hn15 hg15
 obtain ⟨PN15, hb15⟩ : ∃ b, ws14.heap.size = b := ⟨_, rfl⟩
 rw [hb15] at hn15 ⊢
 have hge15 := Nat.le_trans (hF_14).size (Nat.le_of_eq hb15)
 have hnePN4_PN15 : PN4 ≠ PN15 := nl (hPN4_14).lt hb15
 have hnePN5_PN15 : PN5 ≠ PN15 := nl (hPN5_14).lt hb15
 have hnePN14_PN15 : PN14 ≠ PN15 := nl (hn14).lt hb15
 have hPN4_15 := (hPN4_14).gr hg15
 have hPN5_15 := (hPN5_14).gr hg15
 have hPN14_15 := (hn14).gr hg15
 have hF_15 := (hF_14).then hg15
 simp only [Act.put, zs, z0, z1]
 refine sF rfl ?_
 refine wp_storeB rfl rfl rfl (hPN14_15) ?_
 intro ws16 hs16 gx16
 have hPN4_16 := (hPN4_15).grx gx16 hnePN4_PN14
 have hPN5_16 := (hPN5_15).grx gx16 hnePN5_PN14
 have hPN15_16 := (hn15).grx gx16 (Ne.symm hnePN14_PN15)
 have hF_16 := (hF_15).thenx gx16 (.inr hge14)
 change AtA ws16 PN14 (bv zeroM) 30 at hs16
 simp only [Act.put, zs, z0, z1]
 refine sF rfl ?_
 refine wp_storeB rfl rfl rfl (hPN15_16) ?_
 intro ws17 hs17 gx17
 have hPN4_17 := (hPN4_16).grx gx17 hnePN4_PN15
 have hPN5_17 := (hPN5_16).grx gx17 hnePN5_PN15
 have hPN14_17 := (hs16).grx gx17 hnePN14_PN15
 have hF_17 := (hF_16).thenx gx17 (.inr hge15)
 change AtA ws17 PN15 (bv zeroM) 30 at hs17
 simp only [Act.put, zs, z0, z1]
 refine sF rfl ?_
 refine wA (v := .bool false) rfl rfl ?_
 simp only [Act.put, zs, z0, z1]
 refine sF rfl ?_
 refine wA (v := .int .i64 20) rfl rfl ?_
 simp only [Act.put, zs, z0, z1]
 refine s_end ?_
 go_upto_region 4 with fail
 refine rG ?_
 refine sF rfl ?_
 refine wM (v := .bool true) rfl rfl ?_
 simp only [Act.put, zs, z0, z1]
 refine sF rfl ?_
 refine wM (v := .bool true) rfl rfl ?_
 simp only [Act.put, zs, z0, z1]
 refine s_do (by rfl) ?_
 refine wM (v := .int .i64 0) rfl rfl ?_
 simp only [Act.put, zs, z0, z1]
 refine s_do (by rfl) ?_
 refine wp_eqE rfl rfl ?_
 simp only [Act.put, zs, z0, z1]
 refine sF rfl ?_
 refine wp_pickT (v := .bool true) rfl rfl rfl ?_
 simp only [Act.put, zs, z0, z1]
 refine sF rfl ?_
 refine wM (v := .bool true) rfl rfl ?_
 simp only [Act.put, zs, z0, z1]
 refine s_do (by rfl) ?_
 refine wp_fa1 rfl rfl ?_
 simp only [Act.put, zs, z0, z1]
 refine s_do (by rfl) ?_
 refine wp_pU (v0 := .int .u64 R1.ul) (v1 := .int .u64 R1.uh) rfl rfl (hPN4_17) rfl rfl ?_
 simp only [Act.put, zs, z0, z1]
 refine s_do (by rfl) ?_
 refine wp_bldU rfl ?_
 simp only [Act.put, zs, z0, z1]
 refine s_do (by rfl) ?_
 refine wp_eqU rfl rfl rfl u1 u2 ?_
 simp only [Act.put, zs, z0, z1]
 refine sF rfl ?_
 refine wp_pickT (v := .bool true) rfl rfl rfl ?_
 simp only [Act.put, zs, z0, z1]
 refine sF rfl ?_
 refine wM (v := .bool true) rfl rfl ?_
 simp only [Act.put, zs, z0, z1]
 refine s_do (by rfl) ?_
 refine wM (v := .bool true) rfl rfl ?_
 simp only [Act.put, zs, z0, z1]
 refine sF rfl ?_
 refine wp_pickT (v := .bool true) rfl rfl rfl ?_
 simp only [Act.put, zs, z0, z1]
 refine sF rfl ?_
 refine wM (v := .bool true) rfl rfl ?_
 simp only [Act.put, zs, z0, z1]
 refine s_do (by rfl) ?_
 refine wM (v := .bool true) rfl rfl ?_
 simp only [Act.put, zs, z0, z1]
 refine sF rfl ?_
 refine wp_pickT (v := .bool true) rfl rfl rfl ?_
 simp only [Act.put, zs, z0, z1]
 refine sF rfl ?_
 refine wM (v := .bool true) rfl rfl ?_
 simp only [Act.put, zs, z0, z1]
 refine s_do (by rfl) ?_
 refine wM (v := .int .i64 0) rfl rfl ?_
 simp only [Act.put, zs, z0, z1]
 refine s_do (by rfl) ?_
 refine wp_eqE rfl rfl ?_
 simp only [Act.put, zs, z0, z1]
 refine sF rfl ?_
 refine wp_pickT (v := .bool true) rfl rfl rfl ?_
 simp only [Act.put, zs, z0, z1]
 refine sF rfl ?_
 refine wM (v := .bool true) rfl rfl ?_
 simp only [Act.put, zs, z0, z1]
 refine s_do (by rfl) ?_
 refine wM (v := .int .i64 20) rfl rfl ?_
 simp only [Act.put, zs, z0, z1]
 refine s_do (by rfl) ?_
 refine wp_eqE rfl rfl ?_
 simp only [Act.put, zs, z0, z1]
 refine sF rfl ?_
 refine wp_pickT (v := .bool true) rfl rfl rfl ?_
 simp only [Act.put, zs, z0, z1]
 refine sF rfl ?_
 refine wA (v := .bool true) rfl rfl ?_
 simp only [Act.put, zs, z0, z1]
 refine s_end ?_
 go_wp2
 go_ret
 exact ⟨rfl, (hF_17).gr0⟩
theorem w_ref (w : World) : Calls Tryz.prog 29 #[.int .u8 2, .bool true, .bool true, .agg (bv anyM), .agg (bv (constM 7#64))] w fun e w' => e = .returned (.tuple #[.agg (bv (rx (refM (tellM 2 true true anyM (constM 7#64))))), .agg (bv (ry (refM (tellM 2 true true anyM (constM 7#64))))), .bool true, .int .i64 0]) ∧ Gr w w' := by
 have h := k_ref (c := 2) (wd := true) (so := true) (by unfold codeM; decide) good_any (good_const 7#64) w
 rw [wr1] at h
 exact h
theorem w_sure (w : World) : Calls Tryz.prog 30 #[.int .u8 1, .bool true, .agg (bv (constM 3#64)), .agg (bv (constM 3#64))] w fun e w' => e = .returned (.tuple #[.bool true, .bool true, .int .i64 0]) ∧ Gr w w' := by
 have h := k_sure 1 (by unfold codeM; decide) true (constM 3#64) (constM 3#64) (good_const _) (good_const _) w
 rw [wr4] at h
 exact h
theorem k_works (w : World) : Calls Tryz.prog 32 #[] w fun e w' => e = .returned (.bool true) ∧ Gr w w' :=
 works_go anyM (constM 7#64) (constM 3#64) _ _ wr2 wr3 k_any (k_const 7#64) (k_const 3#64) w_ref w_sure w
end Go.Proofs.YtcbcijibgpaipaaGreat
