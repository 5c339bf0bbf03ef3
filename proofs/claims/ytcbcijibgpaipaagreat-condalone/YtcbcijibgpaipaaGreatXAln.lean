/- Towards the statement CondAlone: its walk. -/
import Derived.Test.YtcbcijibgpaipaaGreatCAl
import Derived.Deep.DeepCutAuto
namespace Go.Proofs.YtcbcijibgpaipaaGreat
open Go.ChangeShapes Go.WideShapes Go.ChangeAt Go.RowKit
open Tn (iv)
set_option linter.unusedVariables false
set_option linter.unusedSimpArgs false
set_option maxRecDepth 20000

theorem wp_eqK {o : Oper} {a : Act} {w : World} {K : Act → World → Prop} {Q : Exit → Act → World → Prop} {x : Operand} (ho : o.op = .binOp .eql 44 x (.const (.int .i64 0)) 44) (hx : a.eval x = .int .i64 0) (hK : K (a.put o.dst (.bool true)) w) : o.wp Tryz.prog a w K Q := by
  obtain ⟨dst, op, ty, pos, after, guard⟩ := o
  subst ho
  unfold Oper.wp
  simp only [execOp, hx]
  go_simp
  exact hK
theorem wp_eqS {o : Oper} {a : Act} {w : World} {K : Act → World → Prop} {Q : Exit → Act → World → Prop} {x y : Operand} {d : Bd} (ho : o.op = .binOp .eql 30 x y 30) (hx : a.eval x = .agg (bv d)) (hy : a.eval y = .agg (bv d)) (hK : K (a.put o.dst (.bool true)) w) : o.wp Tryz.prog a w K Q := by
  obtain ⟨dst, op, ty, pos, after, guard⟩ := o
  subst ho
  unfold Oper.wp
  simp only [execOp, hx, hy, bv]
  go_simp
  exact hK
theorem wp_eqB_t {o : Oper} {a : Act} {w : World} {K : Act → World → Prop} {Q : Exit → Act → World → Prop} {x y : Operand} (ho : o.op = .binOp .eql 4 x y 4) (hx : a.eval x = .bool true) (hy : a.eval y = .bool true) (hK : K (a.put o.dst (.bool true)) w) : o.wp Tryz.prog a w K Q := by
  obtain ⟨dst, op, ty, pos, after, guard⟩ := o
  subst ho
  unfold Oper.wp
  simp only [execOp, hx, hy]
  go_simp
  exact hK
theorem wp_eqB_f {o : Oper} {a : Act} {w : World} {K : Act → World → Prop} {Q : Exit → Act → World → Prop} {x y : Operand} (ho : o.op = .binOp .eql 4 x y 4) (hx : a.eval x = .bool false) (hy : a.eval y = .bool false) (hK : K (a.put o.dst (.bool true)) w) : o.wp Tryz.prog a w K Q := by
  obtain ⟨dst, op, ty, pos, after, guard⟩ := o
  subst ho
  unfold Oper.wp
  simp only [execOp, hx, hy]
  go_simp
  exact hK
theorem has_const (z : BitVec 64) : Has (constM z) z := by
  have e : z &&& ~~~(0#64) = z := by rw [show ~~~(0#64) = BitVec.allOnes 64 by decide, BitVec.and_allOnes]
  refine (hasM_iff _ _).1 ?_
  simp only [hasM, constM]
  rw [e]
  simp
theorem gw_of {w w' : World} (h : Wd.Gr w w') : Gr w w' := ⟨h.below, h.grown⟩
theorem errA_code {d : Int} (h : codeM d) : Wd.errA d = 0 := by
  rcases h with rfl | rfl | rfl | rfl | rfl | rfl | rfl | rfl | rfl | rfl | rfl | rfl <;> rfl
theorem codeM_nn {d : Int} (h : codeM d) : 0 ≤ d := by
  rcases h with rfl | rfl | rfl | rfl | rfl | rfl | rfl | rfl | rfl | rfl | rfl | rfl <;> decide
theorem iv_in (z : BitVec 64) : 0 ≤ iv z ∧ iv z ≤ 18446744073709551615 := inU_iv z
set_option maxHeartbeats 16000000 in
theorem alone_law (x y : BitVec 64) (c : Int) (h0 : 0 ≤ c) (h1 : c ≤ 255) (wd : Bool) (w : World) : Calls Tryz.prog 7 #[.int .u64 (iv x), .int .u64 (iv y), .int .u8 c, .bool wd] w fun e w' => e = .returned (.bool true) ∧ Gr w w' := by
  obtain ⟨d, hd, cd⟩ := k_codes c h0 h1
  have cA := fun w => (Wd.asks_any wd d (iv x) (iv y) (codeM_nn hd) (iv_in x) (iv_in y) w).mono fun e w' h => (⟨h.1, gw_of h.2⟩ : _ ∧ Gr w w')
  rw [errA_code hd] at cA
  have cX := fun w => k_const x w
  have cY := fun w => k_const y w
  have gA := good_const x
  have gB := good_const y
  cases es : Wd.asksV wd d (iv x) (iv y) with
  | false =>
    rw [es] at cA
    have eP := tell_one hd (has_const x) (has_const y) gA gB es
    have eR := tell_none (so := true) hd es
    have cP : ∀ w, Calls Tryz.prog 29 #[.int .u8 d, .bool wd, .bool false, .agg (bv (constM x)), .agg (bv (constM y))] w fun e w' => e = .returned (.tuple #[.agg (bv (constM x)), .agg (bv (constM y)), .bool true, .int .i64 0]) ∧ Gr w w' := fun w => by
      have z := k_ref (wd := wd) (so := false) hd gA gB w
      rw [eP] at z
      exact z
    have cR : ∀ w, Calls Tryz.prog 29 #[.int .u8 d, .bool wd, .bool true, .agg (bv (constM x)), .agg (bv (constM y))] w fun e w' => e = .returned (.tuple #[.agg (bv nothingM), .agg (bv nothingM), .bool false, .int .i64 0]) ∧ Gr w w' := fun w => by
      have z := k_ref (wd := wd) (so := true) hd gA gB w
      rw [eR] at z
      exact z
    have cS : ∀ w, Calls Tryz.prog 30 #[.int .u8 d, .bool wd, .agg (bv (constM x)), .agg (bv (constM y))] w fun e w' => e = .returned (.tuple #[.bool false, .bool true, .int .i64 0]) ∧ Gr w w' := fun w => by
      have z := k_sure d hd wd (constM x) (constM y) gA gB w
      rw [eP, eR] at z
      exact z
    clear eP eR gA gB
    generalize constM x = A at cX cP cR cS
    generalize constM y = B at cY cP cR cS
    go_enter Tryz.func7, Tryz.ntmps7
    go_upto_region 0 with fail
    refine rG ?_
    refine sF rfl ?_
    refine wA (v := .bool false) rfl rfl ?_
    simp only [Act.put, zs, z0, z1]
    refine s_end ?_
    go_upto_region 1 with fail
    refine rG ?_
    refine sF rfl ?_
    refine wM (v := .int .u8 c) rfl rfl ?_
    simp only [Act.put, zs, z0, z1]
    refine sF rfl ?_
    refine wp_call1 rfl rfl (by go_simp) ?_
    refine ((cd) _).mono ?_
    rintro e wk1 ⟨rfl, hk1⟩
    refine ⟨_, rfl, ?_⟩
    have hF_1 := (GrL.refl [] w).then hk1
    simp only [Act.put, zs, z0, z1]
    refine sF rfl ?_
    refine wA (v := .int .u8 d) rfl rfl ?_
    simp only [Act.put, zs, z0, z1]
    refine s_end ?_
    go_upto_region 2 with fail
    refine rG ?_
    refine sF rfl ?_
    refine wM (v := .int .u64 (iv x)) rfl rfl ?_
    simp only [Act.put, zs, z0, z1]
    refine sF rfl ?_
    refine wp_call1 rfl rfl (by go_simp) ?_
    refine ((cX) _).mono ?_
    rintro e wk2 ⟨rfl, hk2⟩
    refine ⟨_, rfl, ?_⟩
    have hF_2 := (hF_1).then hk2
    simp only [Act.put, zs, z0, z1]
    refine sF rfl ?_
    refine wM (v := .int .u64 (iv y)) rfl rfl ?_
    simp only [Act.put, zs, z0, z1]
    refine sF rfl ?_
    refine wp_call1 rfl rfl (by go_simp) ?_
    refine ((cY) _).mono ?_
    rintro e wk3 ⟨rfl, hk3⟩
    refine ⟨_, rfl, ?_⟩
    have hF_3 := (hF_2).then hk3
    simp only [Act.put, zs, z0, z1]
    refine sF rfl ?_
    refine wp_allocB rfl ?_
    intro ws4 hn4 hg4
    obtain ⟨PN4, hb4⟩ : ∃ b, wk3.heap.size = b := ⟨_, rfl⟩
    rw [hb4] at hn4 ⊢
    have hge4 := Nat.le_trans (hF_3).size (Nat.le_of_eq hb4)
    have hF_4 := (hF_3).then hg4
    simp only [Act.put, zs, z0, z1]
    refine sF rfl ?_
    refine wp_allocB rfl ?_
    intro ws5 hn5 hg5
    obtain ⟨PN5, hb5⟩ : ∃ b, ws4.heap.size = b := ⟨_, rfl⟩
    rw [hb5] at hn5 ⊢
    have hge5 := Nat.le_trans (hF_4).size (Nat.le_of_eq hb5)
    have hnePN4_PN5 : PN4 ≠ PN5 := Nat.ne_of_lt (Nat.lt_of_lt_of_le (hn4).lt (Nat.le_of_eq hb5))
    have hPN4_5 := (hn4).gr hg5
    have hF_5 := (hF_4).then hg5
    simp only [Act.put, zs, z0, z1]
    refine sF rfl ?_
    refine wp_storeB rfl rfl rfl (hPN4_5) ?_
    intro ws6 hs6 gx6
    have hPN5_6 := (hn5).grx gx6 (Ne.symm hnePN4_PN5)
    have hF_6 := (hF_5).thenx gx6 (.inr hge4)
    change AtA ws6 PN4 (bv A) 30 at hs6
    simp only [Act.put, zs, z0, z1]
    refine sF rfl ?_
    refine wp_storeB rfl rfl rfl (hPN5_6) ?_
    intro ws7 hs7 gx7
    have hPN4_7 := (hs6).grx gx7 hnePN4_PN5
    have hF_7 := (hF_6).thenx gx7 (.inr hge5)
    change AtA ws7 PN5 (bv B) 30 at hs7
    simp only [Act.put, zs, z0, z1]
    refine s_end ?_
    go_upto_region 3 with fail
    refine rG ?_
    refine sF rfl ?_
    refine wM (v := .int .u8 d) rfl rfl ?_
    simp only [Act.put, zs, z0, z1]
    refine sF rfl ?_
    refine wM (v := .bool wd) rfl rfl ?_
    simp only [Act.put, zs, z0, z1]
    refine sF rfl ?_
    refine wM (v := .int .u64 (iv x)) rfl rfl ?_
    simp only [Act.put, zs, z0, z1]
    refine sF rfl ?_
    refine wM (v := .int .u64 (iv y)) rfl rfl ?_
    simp only [Act.put, zs, z0, z1]
    refine sF rfl ?_
    refine wp_call4 rfl rfl rfl rfl rfl (by go_simp) ?_
    refine ((cA) _).mono ?_
    rintro e wk8 ⟨rfl, hk8⟩
    refine ⟨_, rfl, ?_⟩
    have hPN4_8 := (hPN4_7).gr hk8
    have hPN5_8 := (hs7).gr hk8
    have hF_8 := (hF_7).then hk8
    simp only [Act.put, zs, z0, z1]
    refine sF rfl ?_
    refine wM (v := .tuple #[.bool false, .int .i64 0]) rfl rfl ?_
    simp only [Act.put, zs, z0, z1]
    refine sF rfl ?_
    refine wp_extract (v := .bool false) rfl rfl rfl ?_
    simp only [Act.put, zs, z0, z1]
    refine sF rfl ?_
    refine wp_extract (v := .int .i64 0) rfl rfl rfl ?_
    simp only [Act.put, zs, z0, z1]
    refine sF rfl ?_
    refine wA (v := .bool false) rfl rfl ?_
    simp only [Act.put, zs, z0, z1]
    refine sF rfl ?_
    refine wA (v := .int .i64 0) rfl rfl ?_
    simp only [Act.put, zs, z0, z1]
    refine s_end ?_
    go_upto_region 4 with fail
    refine rG ?_
    refine sF rfl ?_
    refine wM (v := .int .u8 d) rfl rfl ?_
    simp only [Act.put, zs, z0, z1]
    refine sF rfl ?_
    refine wM (v := .bool wd) rfl rfl ?_
    simp only [Act.put, zs, z0, z1]
    refine sF rfl ?_
    refine wp_loadB rfl rfl (hPN4_8) ?_
    simp only [Act.put, zs, z0, z1]
    refine sF rfl ?_
    refine wp_loadB rfl rfl (hPN5_8) ?_
    simp only [Act.put, zs, z0, z1]
    refine sF rfl ?_
    refine wp_call4 rfl rfl rfl rfl rfl (by go_simp) ?_
    refine ((cS) _).mono ?_
    rintro e wk9 ⟨rfl, hk9⟩
    refine ⟨_, rfl, ?_⟩
    have hPN4_9 := (hPN4_8).gr hk9
    have hPN5_9 := (hPN5_8).gr hk9
    have hF_9 := (hF_8).then hk9
    simp only [Act.put, zs, z0, z1]
    refine sF rfl ?_
    refine wM (v := .tuple #[.bool false, .bool true, .int .i64 0]) rfl rfl ?_
    simp only [Act.put, zs, z0, z1]
    refine sF rfl ?_
    refine wp_extract (v := .bool false) rfl rfl rfl ?_
    simp only [Act.put, zs, z0, z1]
    refine sF rfl ?_
    refine wp_extract (v := .bool true) rfl rfl rfl ?_
    simp only [Act.put, zs, z0, z1]
    refine sF rfl ?_
    refine wp_extract (v := .int .i64 0) rfl rfl rfl ?_
    simp only [Act.put, zs, z0, z1]
    refine sF rfl ?_
    refine wA (v := .bool false) rfl rfl ?_
    simp only [Act.put, zs, z0, z1]
    refine sF rfl ?_
    refine wA (v := .bool true) rfl rfl ?_
    simp only [Act.put, zs, z0, z1]
    refine sF rfl ?_
    refine wA (v := .int .i64 0) rfl rfl ?_
    simp only [Act.put, zs, z0, z1]
    refine s_end ?_
    go_upto_region 5 with fail
    refine rG ?_
    refine sF rfl ?_
    refine wM (v := .int .u8 d) rfl rfl ?_
    simp only [Act.put, zs, z0, z1]
    refine sF rfl ?_
    refine wM (v := .bool wd) rfl rfl ?_
    simp only [Act.put, zs, z0, z1]
    refine sF rfl ?_
    refine wM (v := .bool false) rfl rfl ?_
    simp only [Act.put, zs, z0, z1]
    refine sF rfl ?_
    refine wp_loadB rfl rfl (hPN4_9) ?_
    simp only [Act.put, zs, z0, z1]
    refine sF rfl ?_
    refine wp_loadB rfl rfl (hPN5_9) ?_
    simp only [Act.put, zs, z0, z1]
    refine sF rfl ?_
    refine wp_call5 rfl rfl rfl rfl rfl rfl (by go_simp) ?_
    refine ((cP) _).mono ?_
    rintro e wk10 ⟨rfl, hk10⟩
    refine ⟨_, rfl, ?_⟩
    have hPN4_10 := (hPN4_9).gr hk10
    have hPN5_10 := (hPN5_9).gr hk10
    have hF_10 := (hF_9).then hk10
    simp only [Act.put, zs, z0, z1]
    refine sF rfl ?_
    refine wM (v := .tuple #[.agg (bv A), .agg (bv B), .bool true, .int .i64 0]) rfl rfl ?_
    simp only [Act.put, zs, z0, z1]
    refine sF rfl ?_
    refine wp_extract (v := .agg (bv A)) rfl rfl rfl ?_
    simp only [Act.put, zs, z0, z1]
    refine sF rfl ?_
    refine wp_extract (v := .agg (bv B)) rfl rfl rfl ?_
    simp only [Act.put, zs, z0, z1]
    refine sF rfl ?_
    refine wp_extract (v := .bool true) rfl rfl rfl ?_
    simp only [Act.put, zs, z0, z1]
    refine sF rfl ?_
    refine wp_extract (v := .int .i64 0) rfl rfl rfl ?_
    simp only [Act.put, zs, z0, z1]
    refine sF rfl ?_
    refine wp_allocB rfl ?_
    intro ws11 hn11 hg11
    obtain ⟨PN11, hb11⟩ : ∃ b, wk10.heap.size = b := ⟨_, rfl⟩
    rw [hb11] at hn11 ⊢
    have hge11 := Nat.le_trans (hF_10).size (Nat.le_of_eq hb11)
    have hnePN4_PN11 : PN4 ≠ PN11 := Nat.ne_of_lt (Nat.lt_of_lt_of_le (hPN4_10).lt (Nat.le_of_eq hb11))
    have hnePN5_PN11 : PN5 ≠ PN11 := Nat.ne_of_lt (Nat.lt_of_lt_of_le (hPN5_10).lt (Nat.le_of_eq hb11))
    have hPN4_11 := (hPN4_10).gr hg11
    have hPN5_11 := (hPN5_10).gr hg11
    have hF_11 := (hF_10).then hg11
    simp only [Act.put, zs, z0, z1]
    refine sF rfl ?_
    refine wp_allocB rfl ?_
    intro ws12 hn12 hg12
    obtain ⟨PN12, hb12⟩ : ∃ b, ws11.heap.size = b := ⟨_, rfl⟩
    rw [hb12] at hn12 ⊢
    have hge12 := Nat.le_trans (hF_11).size (Nat.le_of_eq hb12)
    have hnePN4_PN12 : PN4 ≠ PN12 := Nat.ne_of_lt (Nat.lt_of_lt_of_le (hPN4_11).lt (Nat.le_of_eq hb12))
    have hnePN5_PN12 : PN5 ≠ PN12 := Nat.ne_of_lt (Nat.lt_of_lt_of_le (hPN5_11).lt (Nat.le_of_eq hb12))
    have hnePN11_PN12 : PN11 ≠ PN12 := Nat.ne_of_lt (Nat.lt_of_lt_of_le (hn11).lt (Nat.le_of_eq hb12))
    have hPN4_12 := (hPN4_11).gr hg12
    have hPN5_12 := (hPN5_11).gr hg12
    have hPN11_12 := (hn11).gr hg12
    have hF_12 := (hF_11).then hg12
    simp only [Act.put, zs, z0, z1]
    refine sF rfl ?_
    refine wp_storeB rfl rfl rfl (hPN11_12) ?_
    intro ws13 hs13 gx13
    have hPN4_13 := (hPN4_12).grx gx13 hnePN4_PN11
    have hPN5_13 := (hPN5_12).grx gx13 hnePN5_PN11
    have hPN12_13 := (hn12).grx gx13 (Ne.symm hnePN11_PN12)
    have hF_13 := (hF_12).thenx gx13 (.inr hge11)
    change AtA ws13 PN11 (bv A) 30 at hs13
    simp only [Act.put, zs, z0, z1]
    refine sF rfl ?_
    refine wp_storeB rfl rfl rfl (hPN12_13) ?_
    intro ws14 hs14 gx14
    have hPN4_14 := (hPN4_13).grx gx14 hnePN4_PN12
    have hPN5_14 := (hPN5_13).grx gx14 hnePN5_PN12
    have hPN11_14 := (hs13).grx gx14 hnePN11_PN12
    have hF_14 := (hF_13).thenx gx14 (.inr hge12)
    change AtA ws14 PN12 (bv B) 30 at hs14
    simp only [Act.put, zs, z0, z1]
    refine sF rfl ?_
    refine wA (v := .bool true) rfl rfl ?_
    simp only [Act.put, zs, z0, z1]
    refine sF rfl ?_
    refine wA (v := .int .i64 0) rfl rfl ?_
    simp only [Act.put, zs, z0, z1]
    refine s_end ?_
    go_upto_region 6 with fail
    refine rG ?_
    refine sF rfl ?_
    refine wM (v := .int .u8 d) rfl rfl ?_
    simp only [Act.put, zs, z0, z1]
    refine sF rfl ?_
    refine wM (v := .bool wd) rfl rfl ?_
    simp only [Act.put, zs, z0, z1]
    refine sF rfl ?_
    refine wM (v := .bool false) rfl rfl ?_
    simp only [Act.put, zs, z0, z1]
    refine sF rfl ?_
    refine wp_notF rfl rfl ?_
    simp only [Act.put, zs, z0, z1]
    refine sF rfl ?_
    refine wp_loadB rfl rfl (hPN4_14) ?_
    simp only [Act.put, zs, z0, z1]
    refine sF rfl ?_
    refine wp_loadB rfl rfl (hPN5_14) ?_
    simp only [Act.put, zs, z0, z1]
    refine sF rfl ?_
    refine wp_call5 rfl rfl rfl rfl rfl rfl (by go_simp) ?_
    refine ((cR) _).mono ?_
    rintro e wk15 ⟨rfl, hk15⟩
    refine ⟨_, rfl, ?_⟩
    have hPN4_15 := (hPN4_14).gr hk15
    have hPN5_15 := (hPN5_14).gr hk15
    have hPN11_15 := (hPN11_14).gr hk15
    have hPN12_15 := (hs14).gr hk15
    have hF_15 := (hF_14).then hk15
    simp only [Act.put, zs, z0, z1]
    refine sF rfl ?_
    refine wM (v := .tuple #[.agg (bv nothingM), .agg (bv nothingM), .bool false, .int .i64 0]) rfl rfl ?_
    simp only [Act.put, zs, z0, z1]
    refine sF rfl ?_
    refine wp_extract (v := .agg (bv nothingM)) rfl rfl rfl ?_
    simp only [Act.put, zs, z0, z1]
    refine sF rfl ?_
    refine wp_extract (v := .agg (bv nothingM)) rfl rfl rfl ?_
    simp only [Act.put, zs, z0, z1]
    refine sF rfl ?_
    refine wp_extract (v := .bool false) rfl rfl rfl ?_
    simp only [Act.put, zs, z0, z1]
    refine sF rfl ?_
    refine wp_extract (v := .int .i64 0) rfl rfl rfl ?_
    simp only [Act.put, zs, z0, z1]
    refine sF rfl ?_
    refine wp_allocB rfl ?_
    intro ws16 hn16 hg16
    obtain ⟨PN16, hb16⟩ : ∃ b, wk15.heap.size = b := ⟨_, rfl⟩
    rw [hb16] at hn16 ⊢
    have hge16 := Nat.le_trans (hF_15).size (Nat.le_of_eq hb16)
    have hnePN4_PN16 : PN4 ≠ PN16 := Nat.ne_of_lt (Nat.lt_of_lt_of_le (hPN4_15).lt (Nat.le_of_eq hb16))
    have hnePN5_PN16 : PN5 ≠ PN16 := Nat.ne_of_lt (Nat.lt_of_lt_of_le (hPN5_15).lt (Nat.le_of_eq hb16))
    have hnePN11_PN16 : PN11 ≠ PN16 := Nat.ne_of_lt (Nat.lt_of_lt_of_le (hPN11_15).lt (Nat.le_of_eq hb16))
    have hnePN12_PN16 : PN12 ≠ PN16 := Nat.ne_of_lt (Nat.lt_of_lt_of_le (hPN12_15).lt (Nat.le_of_eq hb16))
    have hPN4_16 := (hPN4_15).gr hg16
    have hPN5_16 := (hPN5_15).gr hg16
    have hPN11_16 := (hPN11_15).gr hg16
    have hPN12_16 := (hPN12_15).gr hg16
    have hF_16 := (hF_15).then hg16
    simp only [Act.put, zs, z0, z1]
    refine sF rfl ?_
    refine wp_allocB rfl ?_
    intro ws17 hn17 hg17
    obtain ⟨PN17, hb17⟩ : ∃ b, ws16.heap.size = b := ⟨_, rfl⟩
    rw [hb17] at hn17 ⊢
    have hge17 := Nat.le_trans (hF_16).size (Nat.le_of_eq hb17)
    have hnePN4_PN17 : PN4 ≠ PN17 := Nat.ne_of_lt (Nat.lt_of_lt_of_le (hPN4_16).lt (Nat.le_of_eq hb17))
    have hnePN5_PN17 : PN5 ≠ PN17 := Nat.ne_of_lt (Nat.lt_of_lt_of_le (hPN5_16).lt (Nat.le_of_eq hb17))
    have hnePN11_PN17 : PN11 ≠ PN17 := Nat.ne_of_lt (Nat.lt_of_lt_of_le (hPN11_16).lt (Nat.le_of_eq hb17))
    have hnePN12_PN17 : PN12 ≠ PN17 := Nat.ne_of_lt (Nat.lt_of_lt_of_le (hPN12_16).lt (Nat.le_of_eq hb17))
    have hnePN16_PN17 : PN16 ≠ PN17 := Nat.ne_of_lt (Nat.lt_of_lt_of_le (hn16).lt (Nat.le_of_eq hb17))
    have hPN4_17 := (hPN4_16).gr hg17
    have hPN5_17 := (hPN5_16).gr hg17
    have hPN11_17 := (hPN11_16).gr hg17
    have hPN12_17 := (hPN12_16).gr hg17
    have hPN16_17 := (hn16).gr hg17
    have hF_17 := (hF_16).then hg17
    simp only [Act.put, zs, z0, z1]
    refine sF rfl ?_
    refine wp_storeB rfl rfl rfl (hPN16_17) ?_
    intro ws18 hs18 gx18
    have hPN4_18 := (hPN4_17).grx gx18 hnePN4_PN16
    have hPN5_18 := (hPN5_17).grx gx18 hnePN5_PN16
    have hPN11_18 := (hPN11_17).grx gx18 hnePN11_PN16
    have hPN12_18 := (hPN12_17).grx gx18 hnePN12_PN16
    have hPN17_18 := (hn17).grx gx18 (Ne.symm hnePN16_PN17)
    have hF_18 := (hF_17).thenx gx18 (.inr hge16)
    change AtA ws18 PN16 (bv nothingM) 30 at hs18
    simp only [Act.put, zs, z0, z1]
    refine sF rfl ?_
    refine wp_storeB rfl rfl rfl (hPN17_18) ?_
    intro ws19 hs19 gx19
    have hPN4_19 := (hPN4_18).grx gx19 hnePN4_PN17
    have hPN5_19 := (hPN5_18).grx gx19 hnePN5_PN17
    have hPN11_19 := (hPN11_18).grx gx19 hnePN11_PN17
    have hPN12_19 := (hPN12_18).grx gx19 hnePN12_PN17
    have hPN16_19 := (hs18).grx gx19 hnePN16_PN17
    have hF_19 := (hF_18).thenx gx19 (.inr hge17)
    change AtA ws19 PN17 (bv nothingM) 30 at hs19
    simp only [Act.put, zs, z0, z1]
    refine sF rfl ?_
    refine wA (v := .bool false) rfl rfl ?_
    simp only [Act.put, zs, z0, z1]
    refine sF rfl ?_
    refine wA (v := .int .i64 0) rfl rfl ?_
    simp only [Act.put, zs, z0, z1]
    refine s_end ?_
    go_upto_region 7 with fail
    refine rG ?_
    refine sF rfl ?_
    refine wM (v := .int .i64 0) rfl rfl ?_
    simp only [Act.put, zs, z0, z1]
    refine sF rfl ?_
    refine wp_eqK rfl rfl ?_
    simp only [Act.put, zs, z0, z1]
    refine sF rfl ?_
    refine wM (v := .bool true) rfl rfl ?_
    simp only [Act.put, zs, z0, z1]
    refine s_do (by rfl) ?_
    refine wM (v := .int .i64 0) rfl rfl ?_
    simp only [Act.put, zs, z0, z1]
    refine s_do (by rfl) ?_
    refine wp_eqK rfl rfl ?_
    simp only [Act.put, zs, z0, z1]
    refine sF rfl ?_
    refine wp_pickT (v := .bool true) rfl rfl rfl ?_
    simp only [Act.put, zs, z0, z1]
    refine sF rfl ?_
    refine wM (v := .bool true) rfl rfl ?_
    simp only [Act.put, zs, z0, z1]
    refine s_do (by rfl) ?_
    refine wM (v := .int .i64 0) rfl rfl ?_
    simp only [Act.put, zs, z0, z1]
    refine s_do (by rfl) ?_
    refine wp_eqK rfl rfl ?_
    simp only [Act.put, zs, z0, z1]
    refine sF rfl ?_
    refine wp_pickT (v := .bool true) rfl rfl rfl ?_
    simp only [Act.put, zs, z0, z1]
    refine sF rfl ?_
    refine wM (v := .bool true) rfl rfl ?_
    simp only [Act.put, zs, z0, z1]
    refine s_do (by rfl) ?_
    refine wM (v := .int .i64 0) rfl rfl ?_
    simp only [Act.put, zs, z0, z1]
    refine s_do (by rfl) ?_
    refine wp_eqK rfl rfl ?_
    simp only [Act.put, zs, z0, z1]
    refine sF rfl ?_
    refine wp_pickT (v := .bool true) rfl rfl rfl ?_
    simp only [Act.put, zs, z0, z1]
    refine sF rfl ?_
    refine wM (v := .bool true) rfl rfl ?_
    simp only [Act.put, zs, z0, z1]
    refine s_do (by rfl) ?_
    refine wM (v := .bool true) rfl rfl ?_
    simp only [Act.put, zs, z0, z1]
    refine sF rfl ?_
    refine wp_pickT (v := .bool true) rfl rfl rfl ?_
    simp only [Act.put, zs, z0, z1]
    refine sF rfl ?_
    refine wM (v := .bool true) rfl rfl ?_
    simp only [Act.put, zs, z0, z1]
    refine s_do (by rfl) ?_
    refine wM (v := .bool false) rfl rfl ?_
    simp only [Act.put, zs, z0, z1]
    refine s_do (by rfl) ?_
    refine wM (v := .bool false) rfl rfl ?_
    simp only [Act.put, zs, z0, z1]
    refine s_do (by rfl) ?_
    refine wp_eqB_f rfl rfl rfl ?_
    simp only [Act.put, zs, z0, z1]
    refine sF rfl ?_
    refine wp_pickT (v := .bool true) rfl rfl rfl ?_
    simp only [Act.put, zs, z0, z1]
    refine sF rfl ?_
    refine wM (v := .bool true) rfl rfl ?_
    simp only [Act.put, zs, z0, z1]
    refine s_do (by rfl) ?_
    refine wM (v := .bool true) rfl rfl ?_
    simp only [Act.put, zs, z0, z1]
    refine sF rfl ?_
    refine wp_pickT (v := .bool true) rfl rfl rfl ?_
    simp only [Act.put, zs, z0, z1]
    refine sF rfl ?_
    refine wM (v := .bool true) rfl rfl ?_
    simp only [Act.put, zs, z0, z1]
    refine s_do (by rfl) ?_
    refine wM (v := .bool false) rfl rfl ?_
    simp only [Act.put, zs, z0, z1]
    refine s_do (by rfl) ?_
    refine wp_notF rfl rfl ?_
    simp only [Act.put, zs, z0, z1]
    refine sF rfl ?_
    refine wp_pickT (v := .bool true) rfl rfl rfl ?_
    simp only [Act.put, zs, z0, z1]
    refine sF rfl ?_
    refine wM (v := .bool true) rfl rfl ?_
    simp only [Act.put, zs, z0, z1]
    refine s_do (by rfl) ?_
    refine wp_loadB rfl rfl (hPN11_19) ?_
    simp only [Act.put, zs, z0, z1]
    refine s_do (by rfl) ?_
    refine wp_loadB rfl rfl (hPN4_19) ?_
    simp only [Act.put, zs, z0, z1]
    refine s_do (by rfl) ?_
    refine wp_eqS (d := A) rfl rfl rfl ?_
    simp only [Act.put, zs, z0, z1]
    refine sF rfl ?_
    refine wp_pickT (v := .bool true) rfl rfl rfl ?_
    simp only [Act.put, zs, z0, z1]
    refine sF rfl ?_
    refine wM (v := .bool true) rfl rfl ?_
    simp only [Act.put, zs, z0, z1]
    refine s_do (by rfl) ?_
    refine wp_loadB rfl rfl (hPN12_19) ?_
    simp only [Act.put, zs, z0, z1]
    refine s_do (by rfl) ?_
    refine wp_loadB rfl rfl (hPN5_19) ?_
    simp only [Act.put, zs, z0, z1]
    refine s_do (by rfl) ?_
    refine wp_eqS (d := B) rfl rfl rfl ?_
    simp only [Act.put, zs, z0, z1]
    refine sF rfl ?_
    refine wp_pickT (v := .bool true) rfl rfl rfl ?_
    simp only [Act.put, zs, z0, z1]
    refine sF rfl ?_
    refine wM (v := .bool true) rfl rfl ?_
    simp only [Act.put, zs, z0, z1]
    refine s_do (by rfl) ?_
    refine wp_call0 rfl (by go_simp) ?_
    refine ((k_works) _).mono ?_
    rintro e wk20 ⟨rfl, hk20⟩
    refine ⟨_, rfl, ?_⟩
    have hPN4_20 := (hPN4_19).gr hk20
    have hPN5_20 := (hPN5_19).gr hk20
    have hPN11_20 := (hPN11_19).gr hk20
    have hPN12_20 := (hPN12_19).gr hk20
    have hPN16_20 := (hPN16_19).gr hk20
    have hPN17_20 := (hs19).gr hk20
    have hF_20 := (hF_19).then hk20
    simp only [Act.put, zs, z0, z1]
    refine sF rfl ?_
    refine wp_pickT (v := .bool true) rfl rfl rfl ?_
    simp only [Act.put, zs, z0, z1]
    refine sF rfl ?_
    refine wA (v := .bool true) rfl rfl ?_
    simp only [Act.put, zs, z0, z1]
    refine s_end ?_
    go_wp2
    go_ret
    exact ⟨rfl, (hF_20).gr0⟩
  | true =>
    rw [es] at cA
    have eP := tell_one hd (has_const x) (has_const y) gA gB es
    have eR := tell_none (so := false) hd es
    have cP : ∀ w, Calls Tryz.prog 29 #[.int .u8 d, .bool wd, .bool true, .agg (bv (constM x)), .agg (bv (constM y))] w fun e w' => e = .returned (.tuple #[.agg (bv (constM x)), .agg (bv (constM y)), .bool true, .int .i64 0]) ∧ Gr w w' := fun w => by
      have z := k_ref (wd := wd) (so := true) hd gA gB w
      rw [eP] at z
      exact z
    have cR : ∀ w, Calls Tryz.prog 29 #[.int .u8 d, .bool wd, .bool false, .agg (bv (constM x)), .agg (bv (constM y))] w fun e w' => e = .returned (.tuple #[.agg (bv nothingM), .agg (bv nothingM), .bool false, .int .i64 0]) ∧ Gr w w' := fun w => by
      have z := k_ref (wd := wd) (so := false) hd gA gB w
      rw [eR] at z
      exact z
    have cS : ∀ w, Calls Tryz.prog 30 #[.int .u8 d, .bool wd, .agg (bv (constM x)), .agg (bv (constM y))] w fun e w' => e = .returned (.tuple #[.bool true, .bool true, .int .i64 0]) ∧ Gr w w' := fun w => by
      have z := k_sure d hd wd (constM x) (constM y) gA gB w
      rw [eP, eR] at z
      exact z
    clear eP eR gA gB
    generalize constM x = A at cX cP cR cS
    generalize constM y = B at cY cP cR cS
    go_enter Tryz.func7, Tryz.ntmps7
    go_upto_region 0 with fail
    refine rG ?_
    refine sF rfl ?_
    refine wA (v := .bool false) rfl rfl ?_
    simp only [Act.put, zs, z0, z1]
    refine s_end ?_
    go_upto_region 1 with fail
    refine rG ?_
    refine sF rfl ?_
    refine wM (v := .int .u8 c) rfl rfl ?_
    simp only [Act.put, zs, z0, z1]
    refine sF rfl ?_
    refine wp_call1 rfl rfl (by go_simp) ?_
    refine ((cd) _).mono ?_
    rintro e wk1 ⟨rfl, hk1⟩
    refine ⟨_, rfl, ?_⟩
    have hF_1 := (GrL.refl [] w).then hk1
    simp only [Act.put, zs, z0, z1]
    refine sF rfl ?_
    refine wA (v := .int .u8 d) rfl rfl ?_
    simp only [Act.put, zs, z0, z1]
    refine s_end ?_
    go_upto_region 2 with fail
    refine rG ?_
    refine sF rfl ?_
    refine wM (v := .int .u64 (iv x)) rfl rfl ?_
    simp only [Act.put, zs, z0, z1]
    refine sF rfl ?_
    refine wp_call1 rfl rfl (by go_simp) ?_
    refine ((cX) _).mono ?_
    rintro e wk2 ⟨rfl, hk2⟩
    refine ⟨_, rfl, ?_⟩
    have hF_2 := (hF_1).then hk2
    simp only [Act.put, zs, z0, z1]
    refine sF rfl ?_
    refine wM (v := .int .u64 (iv y)) rfl rfl ?_
    simp only [Act.put, zs, z0, z1]
    refine sF rfl ?_
    refine wp_call1 rfl rfl (by go_simp) ?_
    refine ((cY) _).mono ?_
    rintro e wk3 ⟨rfl, hk3⟩
    refine ⟨_, rfl, ?_⟩
    have hF_3 := (hF_2).then hk3
    simp only [Act.put, zs, z0, z1]
    refine sF rfl ?_
    refine wp_allocB rfl ?_
    intro ws4 hn4 hg4
    obtain ⟨PN4, hb4⟩ : ∃ b, wk3.heap.size = b := ⟨_, rfl⟩
    rw [hb4] at hn4 ⊢
    have hge4 := Nat.le_trans (hF_3).size (Nat.le_of_eq hb4)
    have hF_4 := (hF_3).then hg4
    simp only [Act.put, zs, z0, z1]
    refine sF rfl ?_
    refine wp_allocB rfl ?_
    intro ws5 hn5 hg5
    obtain ⟨PN5, hb5⟩ : ∃ b, ws4.heap.size = b := ⟨_, rfl⟩
    rw [hb5] at hn5 ⊢
    have hge5 := Nat.le_trans (hF_4).size (Nat.le_of_eq hb5)
    have hnePN4_PN5 : PN4 ≠ PN5 := Nat.ne_of_lt (Nat.lt_of_lt_of_le (hn4).lt (Nat.le_of_eq hb5))
    have hPN4_5 := (hn4).gr hg5
    have hF_5 := (hF_4).then hg5
    simp only [Act.put, zs, z0, z1]
    refine sF rfl ?_
    refine wp_storeB rfl rfl rfl (hPN4_5) ?_
    intro ws6 hs6 gx6
    have hPN5_6 := (hn5).grx gx6 (Ne.symm hnePN4_PN5)
    have hF_6 := (hF_5).thenx gx6 (.inr hge4)
    change AtA ws6 PN4 (bv A) 30 at hs6
    simp only [Act.put, zs, z0, z1]
    refine sF rfl ?_
    refine wp_storeB rfl rfl rfl (hPN5_6) ?_
    intro ws7 hs7 gx7
    have hPN4_7 := (hs6).grx gx7 hnePN4_PN5
    have hF_7 := (hF_6).thenx gx7 (.inr hge5)
    change AtA ws7 PN5 (bv B) 30 at hs7
    simp only [Act.put, zs, z0, z1]
    refine s_end ?_
    go_upto_region 3 with fail
    refine rG ?_
    refine sF rfl ?_
    refine wM (v := .int .u8 d) rfl rfl ?_
    simp only [Act.put, zs, z0, z1]
    refine sF rfl ?_
    refine wM (v := .bool wd) rfl rfl ?_
    simp only [Act.put, zs, z0, z1]
    refine sF rfl ?_
    refine wM (v := .int .u64 (iv x)) rfl rfl ?_
    simp only [Act.put, zs, z0, z1]
    refine sF rfl ?_
    refine wM (v := .int .u64 (iv y)) rfl rfl ?_
    simp only [Act.put, zs, z0, z1]
    refine sF rfl ?_
    refine wp_call4 rfl rfl rfl rfl rfl (by go_simp) ?_
    refine ((cA) _).mono ?_
    rintro e wk8 ⟨rfl, hk8⟩
    refine ⟨_, rfl, ?_⟩
    have hPN4_8 := (hPN4_7).gr hk8
    have hPN5_8 := (hs7).gr hk8
    have hF_8 := (hF_7).then hk8
    simp only [Act.put, zs, z0, z1]
    refine sF rfl ?_
    refine wM (v := .tuple #[.bool true, .int .i64 0]) rfl rfl ?_
    simp only [Act.put, zs, z0, z1]
    refine sF rfl ?_
    refine wp_extract (v := .bool true) rfl rfl rfl ?_
    simp only [Act.put, zs, z0, z1]
    refine sF rfl ?_
    refine wp_extract (v := .int .i64 0) rfl rfl rfl ?_
    simp only [Act.put, zs, z0, z1]
    refine sF rfl ?_
    refine wA (v := .bool true) rfl rfl ?_
    simp only [Act.put, zs, z0, z1]
    refine sF rfl ?_
    refine wA (v := .int .i64 0) rfl rfl ?_
    simp only [Act.put, zs, z0, z1]
    refine s_end ?_
    go_upto_region 4 with fail
    refine rG ?_
    refine sF rfl ?_
    refine wM (v := .int .u8 d) rfl rfl ?_
    simp only [Act.put, zs, z0, z1]
    refine sF rfl ?_
    refine wM (v := .bool wd) rfl rfl ?_
    simp only [Act.put, zs, z0, z1]
    refine sF rfl ?_
    refine wp_loadB rfl rfl (hPN4_8) ?_
    simp only [Act.put, zs, z0, z1]
    refine sF rfl ?_
    refine wp_loadB rfl rfl (hPN5_8) ?_
    simp only [Act.put, zs, z0, z1]
    refine sF rfl ?_
    refine wp_call4 rfl rfl rfl rfl rfl (by go_simp) ?_
    refine ((cS) _).mono ?_
    rintro e wk9 ⟨rfl, hk9⟩
    refine ⟨_, rfl, ?_⟩
    have hPN4_9 := (hPN4_8).gr hk9
    have hPN5_9 := (hPN5_8).gr hk9
    have hF_9 := (hF_8).then hk9
    simp only [Act.put, zs, z0, z1]
    refine sF rfl ?_
    refine wM (v := .tuple #[.bool true, .bool true, .int .i64 0]) rfl rfl ?_
    simp only [Act.put, zs, z0, z1]
    refine sF rfl ?_
    refine wp_extract (v := .bool true) rfl rfl rfl ?_
    simp only [Act.put, zs, z0, z1]
    refine sF rfl ?_
    refine wp_extract (v := .bool true) rfl rfl rfl ?_
    simp only [Act.put, zs, z0, z1]
    refine sF rfl ?_
    refine wp_extract (v := .int .i64 0) rfl rfl rfl ?_
    simp only [Act.put, zs, z0, z1]
    refine sF rfl ?_
    refine wA (v := .bool true) rfl rfl ?_
    simp only [Act.put, zs, z0, z1]
    refine sF rfl ?_
    refine wA (v := .bool true) rfl rfl ?_
    simp only [Act.put, zs, z0, z1]
    refine sF rfl ?_
    refine wA (v := .int .i64 0) rfl rfl ?_
    simp only [Act.put, zs, z0, z1]
    refine s_end ?_
    go_upto_region 5 with fail
    refine rG ?_
    refine sF rfl ?_
    refine wM (v := .int .u8 d) rfl rfl ?_
    simp only [Act.put, zs, z0, z1]
    refine sF rfl ?_
    refine wM (v := .bool wd) rfl rfl ?_
    simp only [Act.put, zs, z0, z1]
    refine sF rfl ?_
    refine wM (v := .bool true) rfl rfl ?_
    simp only [Act.put, zs, z0, z1]
    refine sF rfl ?_
    refine wp_loadB rfl rfl (hPN4_9) ?_
    simp only [Act.put, zs, z0, z1]
    refine sF rfl ?_
    refine wp_loadB rfl rfl (hPN5_9) ?_
    simp only [Act.put, zs, z0, z1]
    refine sF rfl ?_
    refine wp_call5 rfl rfl rfl rfl rfl rfl (by go_simp) ?_
    refine ((cP) _).mono ?_
    rintro e wk10 ⟨rfl, hk10⟩
    refine ⟨_, rfl, ?_⟩
    have hPN4_10 := (hPN4_9).gr hk10
    have hPN5_10 := (hPN5_9).gr hk10
    have hF_10 := (hF_9).then hk10
    simp only [Act.put, zs, z0, z1]
    refine sF rfl ?_
    refine wM (v := .tuple #[.agg (bv A), .agg (bv B), .bool true, .int .i64 0]) rfl rfl ?_
    simp only [Act.put, zs, z0, z1]
    refine sF rfl ?_
    refine wp_extract (v := .agg (bv A)) rfl rfl rfl ?_
    simp only [Act.put, zs, z0, z1]
    refine sF rfl ?_
    refine wp_extract (v := .agg (bv B)) rfl rfl rfl ?_
    simp only [Act.put, zs, z0, z1]
    refine sF rfl ?_
    refine wp_extract (v := .bool true) rfl rfl rfl ?_
    simp only [Act.put, zs, z0, z1]
    refine sF rfl ?_
    refine wp_extract (v := .int .i64 0) rfl rfl rfl ?_
    simp only [Act.put, zs, z0, z1]
    refine sF rfl ?_
    refine wp_allocB rfl ?_
    intro ws11 hn11 hg11
    obtain ⟨PN11, hb11⟩ : ∃ b, wk10.heap.size = b := ⟨_, rfl⟩
    rw [hb11] at hn11 ⊢
    have hge11 := Nat.le_trans (hF_10).size (Nat.le_of_eq hb11)
    have hnePN4_PN11 : PN4 ≠ PN11 := Nat.ne_of_lt (Nat.lt_of_lt_of_le (hPN4_10).lt (Nat.le_of_eq hb11))
    have hnePN5_PN11 : PN5 ≠ PN11 := Nat.ne_of_lt (Nat.lt_of_lt_of_le (hPN5_10).lt (Nat.le_of_eq hb11))
    have hPN4_11 := (hPN4_10).gr hg11
    have hPN5_11 := (hPN5_10).gr hg11
    have hF_11 := (hF_10).then hg11
    simp only [Act.put, zs, z0, z1]
    refine sF rfl ?_
    refine wp_allocB rfl ?_
    intro ws12 hn12 hg12
    obtain ⟨PN12, hb12⟩ : ∃ b, ws11.heap.size = b := ⟨_, rfl⟩
    rw [hb12] at hn12 ⊢
    have hge12 := Nat.le_trans (hF_11).size (Nat.le_of_eq hb12)
    have hnePN4_PN12 : PN4 ≠ PN12 := Nat.ne_of_lt (Nat.lt_of_lt_of_le (hPN4_11).lt (Nat.le_of_eq hb12))
    have hnePN5_PN12 : PN5 ≠ PN12 := Nat.ne_of_lt (Nat.lt_of_lt_of_le (hPN5_11).lt (Nat.le_of_eq hb12))
    have hnePN11_PN12 : PN11 ≠ PN12 := Nat.ne_of_lt (Nat.lt_of_lt_of_le (hn11).lt (Nat.le_of_eq hb12))
    have hPN4_12 := (hPN4_11).gr hg12
    have hPN5_12 := (hPN5_11).gr hg12
    have hPN11_12 := (hn11).gr hg12
    have hF_12 := (hF_11).then hg12
    simp only [Act.put, zs, z0, z1]
    refine sF rfl ?_
    refine wp_storeB rfl rfl rfl (hPN11_12) ?_
    intro ws13 hs13 gx13
    have hPN4_13 := (hPN4_12).grx gx13 hnePN4_PN11
    have hPN5_13 := (hPN5_12).grx gx13 hnePN5_PN11
    have hPN12_13 := (hn12).grx gx13 (Ne.symm hnePN11_PN12)
    have hF_13 := (hF_12).thenx gx13 (.inr hge11)
    change AtA ws13 PN11 (bv A) 30 at hs13
    simp only [Act.put, zs, z0, z1]
    refine sF rfl ?_
    refine wp_storeB rfl rfl rfl (hPN12_13) ?_
    intro ws14 hs14 gx14
    have hPN4_14 := (hPN4_13).grx gx14 hnePN4_PN12
    have hPN5_14 := (hPN5_13).grx gx14 hnePN5_PN12
    have hPN11_14 := (hs13).grx gx14 hnePN11_PN12
    have hF_14 := (hF_13).thenx gx14 (.inr hge12)
    change AtA ws14 PN12 (bv B) 30 at hs14
    simp only [Act.put, zs, z0, z1]
    refine sF rfl ?_
    refine wA (v := .bool true) rfl rfl ?_
    simp only [Act.put, zs, z0, z1]
    refine sF rfl ?_
    refine wA (v := .int .i64 0) rfl rfl ?_
    simp only [Act.put, zs, z0, z1]
    refine s_end ?_
    go_upto_region 6 with fail
    refine rG ?_
    refine sF rfl ?_
    refine wM (v := .int .u8 d) rfl rfl ?_
    simp only [Act.put, zs, z0, z1]
    refine sF rfl ?_
    refine wM (v := .bool wd) rfl rfl ?_
    simp only [Act.put, zs, z0, z1]
    refine sF rfl ?_
    refine wM (v := .bool true) rfl rfl ?_
    simp only [Act.put, zs, z0, z1]
    refine sF rfl ?_
    refine wp_notT rfl rfl ?_
    simp only [Act.put, zs, z0, z1]
    refine sF rfl ?_
    refine wp_loadB rfl rfl (hPN4_14) ?_
    simp only [Act.put, zs, z0, z1]
    refine sF rfl ?_
    refine wp_loadB rfl rfl (hPN5_14) ?_
    simp only [Act.put, zs, z0, z1]
    refine sF rfl ?_
    refine wp_call5 rfl rfl rfl rfl rfl rfl (by go_simp) ?_
    refine ((cR) _).mono ?_
    rintro e wk15 ⟨rfl, hk15⟩
    refine ⟨_, rfl, ?_⟩
    have hPN4_15 := (hPN4_14).gr hk15
    have hPN5_15 := (hPN5_14).gr hk15
    have hPN11_15 := (hPN11_14).gr hk15
    have hPN12_15 := (hs14).gr hk15
    have hF_15 := (hF_14).then hk15
    simp only [Act.put, zs, z0, z1]
    refine sF rfl ?_
    refine wM (v := .tuple #[.agg (bv nothingM), .agg (bv nothingM), .bool false, .int .i64 0]) rfl rfl ?_
    simp only [Act.put, zs, z0, z1]
    refine sF rfl ?_
    refine wp_extract (v := .agg (bv nothingM)) rfl rfl rfl ?_
    simp only [Act.put, zs, z0, z1]
    refine sF rfl ?_
    refine wp_extract (v := .agg (bv nothingM)) rfl rfl rfl ?_
    simp only [Act.put, zs, z0, z1]
    refine sF rfl ?_
    refine wp_extract (v := .bool false) rfl rfl rfl ?_
    simp only [Act.put, zs, z0, z1]
    refine sF rfl ?_
    refine wp_extract (v := .int .i64 0) rfl rfl rfl ?_
    simp only [Act.put, zs, z0, z1]
    refine sF rfl ?_
    refine wp_allocB rfl ?_
    intro ws16 hn16 hg16
    obtain ⟨PN16, hb16⟩ : ∃ b, wk15.heap.size = b := ⟨_, rfl⟩
    rw [hb16] at hn16 ⊢
    have hge16 := Nat.le_trans (hF_15).size (Nat.le_of_eq hb16)
    have hnePN4_PN16 : PN4 ≠ PN16 := Nat.ne_of_lt (Nat.lt_of_lt_of_le (hPN4_15).lt (Nat.le_of_eq hb16))
    have hnePN5_PN16 : PN5 ≠ PN16 := Nat.ne_of_lt (Nat.lt_of_lt_of_le (hPN5_15).lt (Nat.le_of_eq hb16))
    have hnePN11_PN16 : PN11 ≠ PN16 := Nat.ne_of_lt (Nat.lt_of_lt_of_le (hPN11_15).lt (Nat.le_of_eq hb16))
    have hnePN12_PN16 : PN12 ≠ PN16 := Nat.ne_of_lt (Nat.lt_of_lt_of_le (hPN12_15).lt (Nat.le_of_eq hb16))
    have hPN4_16 := (hPN4_15).gr hg16
    have hPN5_16 := (hPN5_15).gr hg16
    have hPN11_16 := (hPN11_15).gr hg16
    have hPN12_16 := (hPN12_15).gr hg16
    have hF_16 := (hF_15).then hg16
    simp only [Act.put, zs, z0, z1]
    refine sF rfl ?_
    refine wp_allocB rfl ?_
    intro ws17 hn17 hg17
    obtain ⟨PN17, hb17⟩ : ∃ b, ws16.heap.size = b := ⟨_, rfl⟩
    rw [hb17] at hn17 ⊢
    have hge17 := Nat.le_trans (hF_16).size (Nat.le_of_eq hb17)
    have hnePN4_PN17 : PN4 ≠ PN17 := Nat.ne_of_lt (Nat.lt_of_lt_of_le (hPN4_16).lt (Nat.le_of_eq hb17))
    have hnePN5_PN17 : PN5 ≠ PN17 := Nat.ne_of_lt (Nat.lt_of_lt_of_le (hPN5_16).lt (Nat.le_of_eq hb17))
    have hnePN11_PN17 : PN11 ≠ PN17 := Nat.ne_of_lt (Nat.lt_of_lt_of_le (hPN11_16).lt (Nat.le_of_eq hb17))
    have hnePN12_PN17 : PN12 ≠ PN17 := Nat.ne_of_lt (Nat.lt_of_lt_of_le (hPN12_16).lt (Nat.le_of_eq hb17))
    have hnePN16_PN17 : PN16 ≠ PN17 := Nat.ne_of_lt (Nat.lt_of_lt_of_le (hn16).lt (Nat.le_of_eq hb17))
    have hPN4_17 := (hPN4_16).gr hg17
    have hPN5_17 := (hPN5_16).gr hg17
    have hPN11_17 := (hPN11_16).gr hg17
    have hPN12_17 := (hPN12_16).gr hg17
    have hPN16_17 := (hn16).gr hg17
    have hF_17 := (hF_16).then hg17
    simp only [Act.put, zs, z0, z1]
    refine sF rfl ?_
    refine wp_storeB rfl rfl rfl (hPN16_17) ?_
    intro ws18 hs18 gx18
    have hPN4_18 := (hPN4_17).grx gx18 hnePN4_PN16
    have hPN5_18 := (hPN5_17).grx gx18 hnePN5_PN16
    have hPN11_18 := (hPN11_17).grx gx18 hnePN11_PN16
    have hPN12_18 := (hPN12_17).grx gx18 hnePN12_PN16
    have hPN17_18 := (hn17).grx gx18 (Ne.symm hnePN16_PN17)
    have hF_18 := (hF_17).thenx gx18 (.inr hge16)
    change AtA ws18 PN16 (bv nothingM) 30 at hs18
    simp only [Act.put, zs, z0, z1]
    refine sF rfl ?_
    refine wp_storeB rfl rfl rfl (hPN17_18) ?_
    intro ws19 hs19 gx19
    have hPN4_19 := (hPN4_18).grx gx19 hnePN4_PN17
    have hPN5_19 := (hPN5_18).grx gx19 hnePN5_PN17
    have hPN11_19 := (hPN11_18).grx gx19 hnePN11_PN17
    have hPN12_19 := (hPN12_18).grx gx19 hnePN12_PN17
    have hPN16_19 := (hs18).grx gx19 hnePN16_PN17
    have hF_19 := (hF_18).thenx gx19 (.inr hge17)
    change AtA ws19 PN17 (bv nothingM) 30 at hs19
    simp only [Act.put, zs, z0, z1]
    refine sF rfl ?_
    refine wA (v := .bool false) rfl rfl ?_
    simp only [Act.put, zs, z0, z1]
    refine sF rfl ?_
    refine wA (v := .int .i64 0) rfl rfl ?_
    simp only [Act.put, zs, z0, z1]
    refine s_end ?_
    go_upto_region 7 with fail
    refine rG ?_
    refine sF rfl ?_
    refine wM (v := .int .i64 0) rfl rfl ?_
    simp only [Act.put, zs, z0, z1]
    refine sF rfl ?_
    refine wp_eqK rfl rfl ?_
    simp only [Act.put, zs, z0, z1]
    refine sF rfl ?_
    refine wM (v := .bool true) rfl rfl ?_
    simp only [Act.put, zs, z0, z1]
    refine s_do (by rfl) ?_
    refine wM (v := .int .i64 0) rfl rfl ?_
    simp only [Act.put, zs, z0, z1]
    refine s_do (by rfl) ?_
    refine wp_eqK rfl rfl ?_
    simp only [Act.put, zs, z0, z1]
    refine sF rfl ?_
    refine wp_pickT (v := .bool true) rfl rfl rfl ?_
    simp only [Act.put, zs, z0, z1]
    refine sF rfl ?_
    refine wM (v := .bool true) rfl rfl ?_
    simp only [Act.put, zs, z0, z1]
    refine s_do (by rfl) ?_
    refine wM (v := .int .i64 0) rfl rfl ?_
    simp only [Act.put, zs, z0, z1]
    refine s_do (by rfl) ?_
    refine wp_eqK rfl rfl ?_
    simp only [Act.put, zs, z0, z1]
    refine sF rfl ?_
    refine wp_pickT (v := .bool true) rfl rfl rfl ?_
    simp only [Act.put, zs, z0, z1]
    refine sF rfl ?_
    refine wM (v := .bool true) rfl rfl ?_
    simp only [Act.put, zs, z0, z1]
    refine s_do (by rfl) ?_
    refine wM (v := .int .i64 0) rfl rfl ?_
    simp only [Act.put, zs, z0, z1]
    refine s_do (by rfl) ?_
    refine wp_eqK rfl rfl ?_
    simp only [Act.put, zs, z0, z1]
    refine sF rfl ?_
    refine wp_pickT (v := .bool true) rfl rfl rfl ?_
    simp only [Act.put, zs, z0, z1]
    refine sF rfl ?_
    refine wM (v := .bool true) rfl rfl ?_
    simp only [Act.put, zs, z0, z1]
    refine s_do (by rfl) ?_
    refine wM (v := .bool true) rfl rfl ?_
    simp only [Act.put, zs, z0, z1]
    refine sF rfl ?_
    refine wp_pickT (v := .bool true) rfl rfl rfl ?_
    simp only [Act.put, zs, z0, z1]
    refine sF rfl ?_
    refine wM (v := .bool true) rfl rfl ?_
    simp only [Act.put, zs, z0, z1]
    refine s_do (by rfl) ?_
    refine wM (v := .bool true) rfl rfl ?_
    simp only [Act.put, zs, z0, z1]
    refine s_do (by rfl) ?_
    refine wM (v := .bool true) rfl rfl ?_
    simp only [Act.put, zs, z0, z1]
    refine s_do (by rfl) ?_
    refine wp_eqB_t rfl rfl rfl ?_
    simp only [Act.put, zs, z0, z1]
    refine sF rfl ?_
    refine wp_pickT (v := .bool true) rfl rfl rfl ?_
    simp only [Act.put, zs, z0, z1]
    refine sF rfl ?_
    refine wM (v := .bool true) rfl rfl ?_
    simp only [Act.put, zs, z0, z1]
    refine s_do (by rfl) ?_
    refine wM (v := .bool true) rfl rfl ?_
    simp only [Act.put, zs, z0, z1]
    refine sF rfl ?_
    refine wp_pickT (v := .bool true) rfl rfl rfl ?_
    simp only [Act.put, zs, z0, z1]
    refine sF rfl ?_
    refine wM (v := .bool true) rfl rfl ?_
    simp only [Act.put, zs, z0, z1]
    refine s_do (by rfl) ?_
    refine wM (v := .bool false) rfl rfl ?_
    simp only [Act.put, zs, z0, z1]
    refine s_do (by rfl) ?_
    refine wp_notF rfl rfl ?_
    simp only [Act.put, zs, z0, z1]
    refine sF rfl ?_
    refine wp_pickT (v := .bool true) rfl rfl rfl ?_
    simp only [Act.put, zs, z0, z1]
    refine sF rfl ?_
    refine wM (v := .bool true) rfl rfl ?_
    simp only [Act.put, zs, z0, z1]
    refine s_do (by rfl) ?_
    refine wp_loadB rfl rfl (hPN11_19) ?_
    simp only [Act.put, zs, z0, z1]
    refine s_do (by rfl) ?_
    refine wp_loadB rfl rfl (hPN4_19) ?_
    simp only [Act.put, zs, z0, z1]
    refine s_do (by rfl) ?_
    refine wp_eqS (d := A) rfl rfl rfl ?_
    simp only [Act.put, zs, z0, z1]
    refine sF rfl ?_
    refine wp_pickT (v := .bool true) rfl rfl rfl ?_
    simp only [Act.put, zs, z0, z1]
    refine sF rfl ?_
    refine wM (v := .bool true) rfl rfl ?_
    simp only [Act.put, zs, z0, z1]
    refine s_do (by rfl) ?_
    refine wp_loadB rfl rfl (hPN12_19) ?_
    simp only [Act.put, zs, z0, z1]
    refine s_do (by rfl) ?_
    refine wp_loadB rfl rfl (hPN5_19) ?_
    simp only [Act.put, zs, z0, z1]
    refine s_do (by rfl) ?_
    refine wp_eqS (d := B) rfl rfl rfl ?_
    simp only [Act.put, zs, z0, z1]
    refine sF rfl ?_
    refine wp_pickT (v := .bool true) rfl rfl rfl ?_
    simp only [Act.put, zs, z0, z1]
    refine sF rfl ?_
    refine wM (v := .bool true) rfl rfl ?_
    simp only [Act.put, zs, z0, z1]
    refine s_do (by rfl) ?_
    refine wp_call0 rfl (by go_simp) ?_
    refine ((k_works) _).mono ?_
    rintro e wk20 ⟨rfl, hk20⟩
    refine ⟨_, rfl, ?_⟩
    have hPN4_20 := (hPN4_19).gr hk20
    have hPN5_20 := (hPN5_19).gr hk20
    have hPN11_20 := (hPN11_19).gr hk20
    have hPN12_20 := (hPN12_19).gr hk20
    have hPN16_20 := (hPN16_19).gr hk20
    have hPN17_20 := (hs19).gr hk20
    have hF_20 := (hF_19).then hk20
    simp only [Act.put, zs, z0, z1]
    refine sF rfl ?_
    refine wp_pickT (v := .bool true) rfl rfl rfl ?_
    simp only [Act.put, zs, z0, z1]
    refine sF rfl ?_
    refine wA (v := .bool true) rfl rfl ?_
    simp only [Act.put, zs, z0, z1]
    refine s_end ?_
    go_wp2
    go_ret
    exact ⟨rfl, (hF_20).gr0⟩
end Go.Proofs.YtcbcijibgpaipaaGreat
