/- Towards the statement CondSplit: its walk. -/
import Derived.Test.YtcbcijibgpaipabGreatCZ
import Derived.Deep.DeepCutAuto
namespace Go.Proofs.YtcbcijibgpaipabGreat
open Go.ChangeShapes Go.WideShapes Go.ChangeAt Go.RowKit
open Tn (iv)
set_option linter.unusedVariables false
set_option linter.unusedSimpArgs false
set_option maxRecDepth 20000

theorem wp_bxA {o : Oper} {a : Act} {w : World} {K : Act → World → Prop} {Q : Exit → Act → World → Prop} {x : Operand} {v : Ab} (ho : o.op = .box 25 x) (hx : a.eval x = .agg (av v))
  (hK : ∀ w', AtA w' w.heap.size (av v) 25 → Gr w w' → K (a.put o.dst (.pointer (some ⟨w.heap.size, 0, none⟩))) w') : o.wp Tryz.prog a w K Q := by
 obtain ⟨dst, op, ty, pos, after, guard⟩ := o
 subst ho
 have H := hK _ (AtA.newb w rfl (av v) 25) (Gr.alloc (Gr.refl w) _ _)
 unfold Oper.wp
 simp only [execOp, hx]
 go_simp
 exact H
theorem wp_neE {o : Oper} {a : Act} {w : World} {K : Act → World → Prop} {Q : Exit → Act → World → Prop} {x : Operand} (ho : o.op = .binOp .neq 38 x (.const (.int .i64 0)) 38) (hx : a.eval x = .int .i64 0) (hK : K (a.put o.dst (.bool false)) w) : o.wp Tryz.prog a w K Q := by
 obtain ⟨dst, op, ty, pos, after, guard⟩ := o
 subst ho
 unfold Oper.wp
 simp only [execOp, hx]
 go_simp
 exact hK
theorem has_const (z : BitVec 64) : Has (constM z) z := by
 have e : z &&& ~~~(0#64) = z := by rw [show ~~~(0#64) = BitVec.allOnes 64 by decide, BitVec.and_allOnes]
 refine (hasM_iff _ _).1 ?_
 simp only [hasM, constM]
 rw [e]
 simp
theorem gw_of {w w' : World} (h : Wd.Gr w w') : Gr w w' := ⟨h.below, h.grown⟩
theorem errA_code {d : Int} (h : codeM d) : Wd.errA d = 0 := by
 rcases h with rfl | rfl | rfl | rfl | rfl | rfl | rfl | rfl | rfl | rfl | rfl | rfl <;> rfl
theorem codeM_nn {d : Int} (h : codeM d) : 0 ≤ d := by
 rcases h with rfl | rfl | rfl | rfl | rfl | rfl | rfl | rfl | rfl | rfl | rfl | rfl <;> decide
theorem iv_in (z : BitVec 64) : 0 ≤ iv z ∧ iv z ≤ 18446744073709551615 := inU_iv z
theorem rx_none {r : Option (Bd × Bd)} (h : r.isSome = false) : rx r = nothingM := by cases r with | none => rfl | some p => cases h
set_option maxHeartbeats 16000000 in
theorem split_law (v : Ab) (hv : AbOk v) (x nn y : BitVec 64) (c : Int) (h0 : 0 ≤ c) (h1 : c ≤ 255) (wd : Bool) (w : World) : Calls Tryz.prog 4 #[.int .u64 (iv x), .int .u64 (iv nn), .int .u64 (iv y), .agg (av v), .int .u8 c, .bool wd] w fun e w' => e = .returned (.bool true) ∧ Gr w w' := by
 obtain ⟨d, hd, cd⟩ := k_codes c h0 h1
 go_enter Tryz.func4, Tryz.ntmps4
 go_upto_region 0 with fail
 refine rG ?_
 refine sF rfl ?_
 refine wp_bxA rfl rfl ?_
 intro ws1 hn1 hg1
 obtain ⟨PN1, hb1⟩ : ∃ b, w.heap.size = b := ⟨_, rfl⟩
 rw [hb1] at hn1 ⊢
 have hge1 := Nat.le_trans (GrL.refl [] w).size (Nat.le_of_eq hb1)
 have hF_1 := (GrL.refl [] w).then hg1
 simp only [Act.put, zs, z0, z1]
 refine sF rfl ?_
 refine wA (v := .bool false) rfl rfl ?_
 simp only [Act.put, zs, z0, z1]
 refine s_end ?_
 go_upto_region 1 with fail
 refine rG ?_
 refine sF rfl ?_
 refine wp_loadA rfl rfl (hn1) ?_
 simp only [Act.put, zs, z0, z1]
 refine sF rfl ?_
 refine wM (v := .int .u64 (iv x)) rfl rfl ?_
 simp only [Act.put, zs, z0, z1]
 refine sF rfl ?_
 refine wp_call2 rfl rfl rfl (by go_simp) ?_
 refine (k_of v hv x _).mono ?_
 rintro e wk2 ⟨BO, gB, hB, rfl, hk2⟩
 refine ⟨_, rfl, ?_⟩
 have hPN1_2 := (hn1).gr hk2
 have hF_2 := (hF_1).then hk2
 obtain ⟨kx, kl, kg⟩ := sync_keep gB hB
 have cS := fun w => k_sync BO w gB
 have cC := fun w => k_const nn w
 have gC := good_const nn
 have hC := has_const nn
 generalize hA : syncM BO = A at kx kl kg cS
 generalize hCe : constM nn = C at cC gC hC
 have cT0 := fun w => k_ref (wd := wd) (so := true) hd kg gC w
 have cF0 := fun w => k_ref (wd := wd) (so := false) hd kg gC w
 have cA0 := fun w => (Wd.asks_any wd d (iv y) (iv nn) (codeM_nn hd) (iv_in y) (iv_in nn) w).mono fun e w' h => (⟨h.1, gw_of h.2⟩ : _ ∧ Gr w w')
 rw [errA_code hd] at cA0
 have cH0 := fun w => k_has A y w
 have K : ∀ z, Has A z → ∀ so', Wd.asksV wd d (iv z) (iv nn) = so' → ∃ p q, refM (tellM d wd so' A C) = some (p, q) ∧ Has p z := fun z hz so' hs => by
  obtain ⟨p, q, e, g1, -⟩ := ref_keeps kg gC (tell_keeps hd kg gC hz hC hs)
  exact ⟨p, q, e, g1⟩
 obtain ⟨P1, eP1⟩ : ∃ P, rx (refM (tellM d wd true A C)) = P := ⟨_, rfl⟩
 obtain ⟨P2, eP2⟩ : ∃ P, ry (refM (tellM d wd true A C)) = P := ⟨_, rfl⟩
 obtain ⟨Q1, eQ1⟩ : ∃ P, rx (refM (tellM d wd false A C)) = P := ⟨_, rfl⟩
 obtain ⟨Q2, eQ2⟩ : ∃ P, ry (refM (tellM d wd false A C)) = P := ⟨_, rfl⟩
 rw [eP1, eP2] at cT0
 rw [eQ1, eQ2] at cF0
 have hPy : hasM A y = true → Wd.asksV wd d (iv y) (iv nn) = true → ∀ w, Calls Tryz.prog 11 #[.agg (bv P1), .int .u64 (iv y)] w fun e w' => e = .returned (.bool true) ∧ Gr w w' := fun g1 g2 w => by
  obtain ⟨p, q, e, g3⟩ := K y ((hasM_iff _ _).1 g1) true g2
  have g4 : Has P1 y := by rw [← eP1, e]; exact g3
  have := k_has P1 y w
  rwa [(hasM_iff _ _).2 g4] at this
 have hQy : hasM A y = true → Wd.asksV wd d (iv y) (iv nn) = false → ∀ w, Calls Tryz.prog 11 #[.agg (bv Q1), .int .u64 (iv y)] w fun e w' => e = .returned (.bool true) ∧ Gr w w' := fun g1 g2 w => by
  obtain ⟨p, q, e, g3⟩ := K y ((hasM_iff _ _).1 g1) false g2
  have g4 : Has Q1 y := by rw [← eQ1, e]; exact g3
  have := k_has Q1 y w
  rwa [(hasM_iff _ _).2 g4] at this
 have nP : (refM (tellM d wd true A C)).isSome = false → ∀ w, Calls Tryz.prog 15 #[.agg (bv P1)] w fun e w' => e = .returned (.bool true) ∧ Gr w w' := fun g1 w => by
  have := k_none P1 w
  rw [show nnB P1 = true by rw [← eP1, rx_none g1]; exact nothing_nn] at this; exact this
 have nQ : (refM (tellM d wd false A C)).isSome = false → ∀ w, Calls Tryz.prog 15 #[.agg (bv Q1)] w fun e w' => e = .returned (.bool true) ∧ Gr w w' := fun g1 w => by
  have := k_none Q1 w
  rw [show nnB Q1 = true by rw [← eQ1, rx_none g1]; exact nothing_nn] at this; exact this
 cases e1 : (refM (tellM d wd true A C)).isSome <;> cases e2 : (refM (tellM d wd false A C)).isSome <;> cases eh : hasM A y <;> cases es : Wd.asksV wd d (iv y) (iv nn)
 ·exfalso
  obtain ⟨p, q, e, -⟩ := K x kx _ rfl
  cases hs : Wd.asksV wd d (iv x) (iv nn)
  ·rw [hs] at e; rw [e] at e2; cases e2
  ·rw [hs] at e; rw [e] at e1; cases e1
 ·exfalso
  obtain ⟨p, q, e, -⟩ := K x kx _ rfl
  cases hs : Wd.asksV wd d (iv x) (iv nn)
  ·rw [hs] at e; rw [e] at e2; cases e2
  ·rw [hs] at e; rw [e] at e1; cases e1
 ·exfalso
  obtain ⟨p, q, e, -⟩ := K x kx _ rfl
  cases hs : Wd.asksV wd d (iv x) (iv nn)
  ·rw [hs] at e; rw [e] at e2; cases e2
  ·rw [hs] at e; rw [e] at e1; cases e1
 ·exfalso
  obtain ⟨p, q, e, -⟩ := K x kx _ rfl
  cases hs : Wd.asksV wd d (iv x) (iv nn)
  ·rw [hs] at e; rw [e] at e2; cases e2
  ·rw [hs] at e; rw [e] at e1; cases e1
 ·have cT := cT0; have cF := cF0; have cA := cA0; have cH := cH0
  rw [e1] at cT; rw [e2] at cF; rw [es] at cA; rw [eh] at cH
  have cNP := nP e1
  clear cT0 cF0 cA0 cH0 K hPy hQy nP nQ eP1 eP2 eQ1 eQ2 e1 e2 eh es
  simp only [Act.put, zs, z0, z1]
  refine sF rfl ?_
  refine wp_call1 rfl rfl (by go_simp) ?_
  refine ((cS) _).mono ?_
  rintro e wk3 ⟨rfl, hk3⟩
  refine ⟨_, rfl, ?_⟩
  have hPN1_3 := (hPN1_2).gr hk3
  have hF_3 := (hF_2).then hk3
  simp only [Act.put, zs, z0, z1]
  refine sF rfl ?_
  refine wM (v := .int .u64 (iv nn)) rfl rfl ?_
  simp only [Act.put, zs, z0, z1]
  refine sF rfl ?_
  refine wp_call1 rfl rfl (by go_simp) ?_
  refine ((cC) _).mono ?_
  rintro e wk4 ⟨rfl, hk4⟩
  refine ⟨_, rfl, ?_⟩
  have hPN1_4 := (hPN1_3).gr hk4
  have hF_4 := (hF_3).then hk4
  simp only [Act.put, zs, z0, z1]
  refine sF rfl ?_
  refine wp_allocB rfl ?_
  intro ws5 hn5 hg5
  obtain ⟨PN5, hb5⟩ : ∃ b, wk4.heap.size = b := ⟨_, rfl⟩
  rw [hb5] at hn5 ⊢
  have hge5 := Nat.le_trans (hF_4).size (Nat.le_of_eq hb5)
  have hnePN1_PN5 : PN1 ≠ PN5 := nl (hPN1_4).lt hb5
  have hPN1_5 := (hPN1_4).gr hg5
  have hF_5 := (hF_4).then hg5
  simp only [Act.put, zs, z0, z1]
  refine sF rfl ?_
  refine wp_allocB rfl ?_
  intro ws6 hn6 hg6
  obtain ⟨PN6, hb6⟩ : ∃ b, ws5.heap.size = b := ⟨_, rfl⟩
  rw [hb6] at hn6 ⊢
  have hge6 := Nat.le_trans (hF_5).size (Nat.le_of_eq hb6)
  have hnePN1_PN6 : PN1 ≠ PN6 := nl (hPN1_5).lt hb6
  have hnePN5_PN6 : PN5 ≠ PN6 := nl (hn5).lt hb6
  have hPN1_6 := (hPN1_5).gr hg6
  have hPN5_6 := (hn5).gr hg6
  have hF_6 := (hF_5).then hg6
  simp only [Act.put, zs, z0, z1]
  refine sF rfl ?_
  refine wp_storeB rfl rfl rfl (hPN5_6) ?_
  intro ws7 hs7 gx7
  have hPN1_7 := (hPN1_6).grx gx7 hnePN1_PN5
  have hPN6_7 := (hn6).grx gx7 (Ne.symm hnePN5_PN6)
  have hF_7 := (hF_6).thenx gx7 (.inr hge5)
  change AtA ws7 PN5 (bv A) 33 at hs7
  simp only [Act.put, zs, z0, z1]
  refine sF rfl ?_
  refine wp_storeB rfl rfl rfl (hPN6_7) ?_
  intro ws8 hs8 gx8
  have hPN1_8 := (hPN1_7).grx gx8 hnePN1_PN6
  have hPN5_8 := (hs7).grx gx8 hnePN5_PN6
  have hF_8 := (hF_7).thenx gx8 (.inr hge6)
  change AtA ws8 PN6 (bv C) 33 at hs8
  simp only [Act.put, zs, z0, z1]
  refine s_end ?_
  go_upto_region 2 with fail
  refine rG ?_
  refine sF rfl ?_
  refine wM (v := .int .u8 c) rfl rfl ?_
  simp only [Act.put, zs, z0, z1]
  refine sF rfl ?_
  refine wp_call1 rfl rfl (by go_simp) ?_
  refine ((cd) _).mono ?_
  rintro e wk9 ⟨rfl, hk9⟩
  refine ⟨_, rfl, ?_⟩
  have hPN1_9 := (hPN1_8).gr hk9
  have hPN5_9 := (hPN5_8).gr hk9
  have hPN6_9 := (hs8).gr hk9
  have hF_9 := (hF_8).then hk9
  simp only [Act.put, zs, z0, z1]
  refine sF rfl ?_
  refine wA (v := .int .u8 d) rfl rfl ?_
  simp only [Act.put, zs, z0, z1]
  refine s_end ?_
  go_upto_region 3 with fail
  refine rG ?_
  refine sF rfl ?_
  refine wM (v := .int .u8 d) rfl rfl ?_
  simp only [Act.put, zs, z0, z1]
  refine sF rfl ?_
  refine wM (v := .bool wd) rfl rfl ?_
  simp only [Act.put, zs, z0, z1]
  refine sF rfl ?_
  refine wp_loadB rfl rfl (hPN5_9) ?_
  simp only [Act.put, zs, z0, z1]
  refine sF rfl ?_
  refine wp_loadB rfl rfl (hPN6_9) ?_
  simp only [Act.put, zs, z0, z1]
  refine sF rfl ?_
  refine wp_call5 rfl rfl rfl rfl rfl rfl (by go_simp) ?_
  refine ((cT) _).mono ?_
  rintro e wk10 ⟨rfl, hk10⟩
  refine ⟨_, rfl, ?_⟩
  have hPN1_10 := (hPN1_9).gr hk10
  have hPN5_10 := (hPN5_9).gr hk10
  have hPN6_10 := (hPN6_9).gr hk10
  have hF_10 := (hF_9).then hk10
  simp only [Act.put, zs, z0, z1]
  refine sF rfl ?_
  refine wM (v := .tuple #[.agg (bv P1), .agg (bv P2), .bool false, .int .i64 0]) rfl rfl ?_
  simp only [Act.put, zs, z0, z1]
  refine sF rfl ?_
  refine wp_extract (v := .agg (bv P1)) rfl rfl rfl ?_
  simp only [Act.put, zs, z0, z1]
  refine sF rfl ?_
  refine wp_extract (v := .agg (bv P2)) rfl rfl rfl ?_
  simp only [Act.put, zs, z0, z1]
  refine sF rfl ?_
  refine wp_extract (v := .bool false) rfl rfl rfl ?_
  simp only [Act.put, zs, z0, z1]
  refine sF rfl ?_
  refine wp_extract (v := .int .i64 0) rfl rfl rfl ?_
  simp only [Act.put, zs, z0, z1]
  refine sF rfl ?_
  refine wp_allocB rfl ?_
  intro ws11 hn11 hg11
  obtain ⟨PN11, hb11⟩ : ∃ b, wk10.heap.size = b := ⟨_, rfl⟩
  rw [hb11] at hn11 ⊢
  have hge11 := Nat.le_trans (hF_10).size (Nat.le_of_eq hb11)
  have hnePN1_PN11 : PN1 ≠ PN11 := nl (hPN1_10).lt hb11
  have hnePN5_PN11 : PN5 ≠ PN11 := nl (hPN5_10).lt hb11
  have hnePN6_PN11 : PN6 ≠ PN11 := nl (hPN6_10).lt hb11
  have hPN1_11 := (hPN1_10).gr hg11
  have hPN5_11 := (hPN5_10).gr hg11
  have hPN6_11 := (hPN6_10).gr hg11
  have hF_11 := (hF_10).then hg11
  simp only [Act.put, zs, z0, z1]
  refine sF rfl ?_
  refine wp_allocB rfl ?_
  intro ws12 hn12 hg12
  obtain ⟨PN12, hb12⟩ : ∃ b, ws11.heap.size = b := ⟨_, rfl⟩
  rw [hb12] at hn12 ⊢
  have hge12 := Nat.le_trans (hF_11).size (Nat.le_of_eq hb12)
  have hnePN1_PN12 : PN1 ≠ PN12 := nl (hPN1_11).lt hb12
  have hnePN5_PN12 : PN5 ≠ PN12 := nl (hPN5_11).lt hb12
  have hnePN6_PN12 : PN6 ≠ PN12 := nl (hPN6_11).lt hb12
  have hnePN11_PN12 : PN11 ≠ PN12 := nl (hn11).lt hb12
  have hPN1_12 := (hPN1_11).gr hg12
  have hPN5_12 := (hPN5_11).gr hg12
  have hPN6_12 := (hPN6_11).gr hg12
  have hPN11_12 := (hn11).gr hg12
  have hF_12 := (hF_11).then hg12
  simp only [Act.put, zs, z0, z1]
  refine sF rfl ?_
  refine wp_storeB rfl rfl rfl (hPN11_12) ?_
  intro ws13 hs13 gx13
  have hPN1_13 := (hPN1_12).grx gx13 hnePN1_PN11
  have hPN5_13 := (hPN5_12).grx gx13 hnePN5_PN11
  have hPN6_13 := (hPN6_12).grx gx13 hnePN6_PN11
  have hPN12_13 := (hn12).grx gx13 (Ne.symm hnePN11_PN12)
  have hF_13 := (hF_12).thenx gx13 (.inr hge11)
  change AtA ws13 PN11 (bv P1) 33 at hs13
  simp only [Act.put, zs, z0, z1]
  refine sF rfl ?_
  refine wp_storeB rfl rfl rfl (hPN12_13) ?_
  intro ws14 hs14 gx14
  have hPN1_14 := (hPN1_13).grx gx14 hnePN1_PN12
  have hPN5_14 := (hPN5_13).grx gx14 hnePN5_PN12
  have hPN6_14 := (hPN6_13).grx gx14 hnePN6_PN12
  have hPN11_14 := (hs13).grx gx14 hnePN11_PN12
  have hF_14 := (hF_13).thenx gx14 (.inr hge12)
  change AtA ws14 PN12 (bv P2) 33 at hs14
  simp only [Act.put, zs, z0, z1]
  refine sF rfl ?_
  refine wA (v := .bool false) rfl rfl ?_
  simp only [Act.put, zs, z0, z1]
  refine sF rfl ?_
  refine wA (v := .int .i64 0) rfl rfl ?_
  simp only [Act.put, zs, z0, z1]
  refine s_end ?_
  go_upto_region 4 with fail
  refine rG ?_
  refine sF rfl ?_
  refine wM (v := .int .u8 d) rfl rfl ?_
  simp only [Act.put, zs, z0, z1]
  refine sF rfl ?_
  refine wM (v := .bool wd) rfl rfl ?_
  simp only [Act.put, zs, z0, z1]
  refine sF rfl ?_
  refine wp_loadB rfl rfl (hPN5_14) ?_
  simp only [Act.put, zs, z0, z1]
  refine sF rfl ?_
  refine wp_loadB rfl rfl (hPN6_14) ?_
  simp only [Act.put, zs, z0, z1]
  refine sF rfl ?_
  refine wp_call5 rfl rfl rfl rfl rfl rfl (by go_simp) ?_
  refine ((cF) _).mono ?_
  rintro e wk15 ⟨rfl, hk15⟩
  refine ⟨_, rfl, ?_⟩
  have hPN1_15 := (hPN1_14).gr hk15
  have hPN5_15 := (hPN5_14).gr hk15
  have hPN6_15 := (hPN6_14).gr hk15
  have hPN11_15 := (hPN11_14).gr hk15
  have hPN12_15 := (hs14).gr hk15
  have hF_15 := (hF_14).then hk15
  simp only [Act.put, zs, z0, z1]
  refine sF rfl ?_
  refine wM (v := .tuple #[.agg (bv Q1), .agg (bv Q2), .bool true, .int .i64 0]) rfl rfl ?_
  simp only [Act.put, zs, z0, z1]
  refine sF rfl ?_
  refine wp_extract (v := .agg (bv Q1)) rfl rfl rfl ?_
  simp only [Act.put, zs, z0, z1]
  refine sF rfl ?_
  refine wp_extract (v := .agg (bv Q2)) rfl rfl rfl ?_
  simp only [Act.put, zs, z0, z1]
  refine sF rfl ?_
  refine wp_extract (v := .bool true) rfl rfl rfl ?_
  simp only [Act.put, zs, z0, z1]
  refine sF rfl ?_
  refine wp_extract (v := .int .i64 0) rfl rfl rfl ?_
  simp only [Act.put, zs, z0, z1]
  refine sF rfl ?_
  refine wp_allocB rfl ?_
  intro ws16 hn16 hg16
  obtain ⟨PN16, hb16⟩ : ∃ b, wk15.heap.size = b := ⟨_, rfl⟩
  rw [hb16] at hn16 ⊢
  have hge16 := Nat.le_trans (hF_15).size (Nat.le_of_eq hb16)
  have hnePN1_PN16 : PN1 ≠ PN16 := nl (hPN1_15).lt hb16
  have hnePN5_PN16 : PN5 ≠ PN16 := nl (hPN5_15).lt hb16
  have hnePN6_PN16 : PN6 ≠ PN16 := nl (hPN6_15).lt hb16
  have hnePN11_PN16 : PN11 ≠ PN16 := nl (hPN11_15).lt hb16
  have hnePN12_PN16 : PN12 ≠ PN16 := nl (hPN12_15).lt hb16
  have hPN1_16 := (hPN1_15).gr hg16
  have hPN5_16 := (hPN5_15).gr hg16
  have hPN6_16 := (hPN6_15).gr hg16
  have hPN11_16 := (hPN11_15).gr hg16
  have hPN12_16 := (hPN12_15).gr hg16
  have hF_16 := (hF_15).then hg16
  simp only [Act.put, zs, z0, z1]
  refine sF rfl ?_
  refine wp_allocB rfl ?_
  intro ws17 hn17 hg17
  obtain ⟨PN17, hb17⟩ : ∃ b, ws16.heap.size = b := ⟨_, rfl⟩
  rw [hb17] at hn17 ⊢
  have hge17 := Nat.le_trans (hF_16).size (Nat.le_of_eq hb17)
  have hnePN1_PN17 : PN1 ≠ PN17 := nl (hPN1_16).lt hb17
  have hnePN5_PN17 : PN5 ≠ PN17 := nl (hPN5_16).lt hb17
  have hnePN6_PN17 : PN6 ≠ PN17 := nl (hPN6_16).lt hb17
  have hnePN11_PN17 : PN11 ≠ PN17 := nl (hPN11_16).lt hb17
  have hnePN12_PN17 : PN12 ≠ PN17 := nl (hPN12_16).lt hb17
  have hnePN16_PN17 : PN16 ≠ PN17 := nl (hn16).lt hb17
  have hPN1_17 := (hPN1_16).gr hg17
  have hPN5_17 := (hPN5_16).gr hg17
  have hPN6_17 := (hPN6_16).gr hg17
  have hPN11_17 := (hPN11_16).gr hg17
  have hPN12_17 := (hPN12_16).gr hg17
  have hPN16_17 := (hn16).gr hg17
  have hF_17 := (hF_16).then hg17
  simp only [Act.put, zs, z0, z1]
  refine sF rfl ?_
  refine wp_storeB rfl rfl rfl (hPN16_17) ?_
  intro ws18 hs18 gx18
  have hPN1_18 := (hPN1_17).grx gx18 hnePN1_PN16
  have hPN5_18 := (hPN5_17).grx gx18 hnePN5_PN16
  have hPN6_18 := (hPN6_17).grx gx18 hnePN6_PN16
  have hPN11_18 := (hPN11_17).grx gx18 hnePN11_PN16
  have hPN12_18 := (hPN12_17).grx gx18 hnePN12_PN16
  have hPN17_18 := (hn17).grx gx18 (Ne.symm hnePN16_PN17)
  have hF_18 := (hF_17).thenx gx18 (.inr hge16)
  change AtA ws18 PN16 (bv Q1) 33 at hs18
  simp only [Act.put, zs, z0, z1]
  refine sF rfl ?_
  refine wp_storeB rfl rfl rfl (hPN17_18) ?_
  intro ws19 hs19 gx19
  have hPN1_19 := (hPN1_18).grx gx19 hnePN1_PN17
  have hPN5_19 := (hPN5_18).grx gx19 hnePN5_PN17
  have hPN6_19 := (hPN6_18).grx gx19 hnePN6_PN17
  have hPN11_19 := (hPN11_18).grx gx19 hnePN11_PN17
  have hPN12_19 := (hPN12_18).grx gx19 hnePN12_PN17
  have hPN16_19 := (hs18).grx gx19 hnePN16_PN17
  have hF_19 := (hF_18).thenx gx19 (.inr hge17)
  change AtA ws19 PN17 (bv Q2) 33 at hs19
  simp only [Act.put, zs, z0, z1]
  refine sF rfl ?_
  refine wA (v := .bool true) rfl rfl ?_
  simp only [Act.put, zs, z0, z1]
  refine sF rfl ?_
  refine wA (v := .int .i64 0) rfl rfl ?_
  simp only [Act.put, zs, z0, z1]
  refine s_end ?_
  go_upto_region 5 with fail
  refine rG ?_
  refine sF rfl ?_
  refine wM (v := .int .u8 d) rfl rfl ?_
  simp only [Act.put, zs, z0, z1]
  refine sF rfl ?_
  refine wM (v := .bool wd) rfl rfl ?_
  simp only [Act.put, zs, z0, z1]
  refine sF rfl ?_
  refine wM (v := .int .u64 (iv y)) rfl rfl ?_
  simp only [Act.put, zs, z0, z1]
  refine sF rfl ?_
  refine wM (v := .int .u64 (iv nn)) rfl rfl ?_
  simp only [Act.put, zs, z0, z1]
  refine sF rfl ?_
  refine wp_call4 rfl rfl rfl rfl rfl (by go_simp) ?_
  refine ((cA) _).mono ?_
  rintro e wk20 ⟨rfl, hk20⟩
  refine ⟨_, rfl, ?_⟩
  have hPN1_20 := (hPN1_19).gr hk20
  have hPN5_20 := (hPN5_19).gr hk20
  have hPN6_20 := (hPN6_19).gr hk20
  have hPN11_20 := (hPN11_19).gr hk20
  have hPN12_20 := (hPN12_19).gr hk20
  have hPN16_20 := (hPN16_19).gr hk20
  have hPN17_20 := (hs19).gr hk20
  have hF_20 := (hF_19).then hk20
  simp only [Act.put, zs, z0, z1]
  refine sF rfl ?_
  refine wM (v := .tuple #[.bool false, .int .i64 0]) rfl rfl ?_
  simp only [Act.put, zs, z0, z1]
  refine sF rfl ?_
  refine wp_extract (v := .bool false) rfl rfl rfl ?_
  simp only [Act.put, zs, z0, z1]
  refine sF rfl ?_
  refine wp_extract (v := .int .i64 0) rfl rfl rfl ?_
  simp only [Act.put, zs, z0, z1]
  refine sF rfl ?_
  refine wA (v := .bool false) rfl rfl ?_
  simp only [Act.put, zs, z0, z1]
  refine sF rfl ?_
  refine wA (v := .int .i64 0) rfl rfl ?_
  simp only [Act.put, zs, z0, z1]
  refine s_end ?_
  go_upto_region 6 with fail
  refine rG ?_
  refine sF rfl ?_
  refine wM (v := .int .i64 0) rfl rfl ?_
  simp only [Act.put, zs, z0, z1]
  refine sF rfl ?_
  refine wp_neE rfl rfl ?_
  simp only [Act.put, zs, z0, z1]
  refine sF rfl ?_
  refine wM (v := .bool false) rfl rfl ?_
  simp only [Act.put, zs, z0, z1]
  refine s_do (by rfl) ?_
  refine wM (v := .int .i64 0) rfl rfl ?_
  simp only [Act.put, zs, z0, z1]
  refine s_do (by rfl) ?_
  refine wp_neE rfl rfl ?_
  simp only [Act.put, zs, z0, z1]
  refine sF rfl ?_
  refine wp_pickF (v := .bool false) rfl rfl rfl ?_
  simp only [Act.put, zs, z0, z1]
  refine sF rfl ?_
  refine wM (v := .bool false) rfl rfl ?_
  simp only [Act.put, zs, z0, z1]
  refine s_do (by rfl) ?_
  refine wM (v := .int .i64 0) rfl rfl ?_
  simp only [Act.put, zs, z0, z1]
  refine s_do (by rfl) ?_
  refine wp_neE rfl rfl ?_
  simp only [Act.put, zs, z0, z1]
  refine sF rfl ?_
  refine wp_pickF (v := .bool false) rfl rfl rfl ?_
  simp only [Act.put, zs, z0, z1]
  refine sF rfl ?_
  refine wM (v := .bool false) rfl rfl ?_
  simp only [Act.put, zs, z0, z1]
  refine s_do (by rfl) ?_
  refine wM (v := .bool false) rfl rfl ?_
  simp only [Act.put, zs, z0, z1]
  refine s_do (by rfl) ?_
  refine wp_notF rfl rfl ?_
  simp only [Act.put, zs, z0, z1]
  refine s_do (by rfl) ?_
  refine wM (v := .bool true) rfl rfl ?_
  simp only [Act.put, zs, z0, z1]
  refine s_do (by rfl) ?_
  refine wM (v := .bool true) rfl rfl ?_
  simp only [Act.put, zs, z0, z1]
  refine s_do (by rfl) ?_
  refine wp_notT rfl rfl ?_
  simp only [Act.put, zs, z0, z1]
  refine s_do (by rfl) ?_
  refine wp_pickT (v := .bool false) rfl rfl rfl ?_
  simp only [Act.put, zs, z0, z1]
  refine sF rfl ?_
  refine wp_pickF (v := .bool false) rfl rfl rfl ?_
  simp only [Act.put, zs, z0, z1]
  refine s_end ?_
  go_upto_region 8 with fail
  refine rG ?_
  refine sF rfl ?_
  refine wp_loadB rfl rfl (hPN5_20) ?_
  simp only [Act.put, zs, z0, z1]
  refine sF rfl ?_
  refine wM (v := .int .u64 (iv y)) rfl rfl ?_
  simp only [Act.put, zs, z0, z1]
  refine sF rfl ?_
  refine wp_call2 rfl rfl rfl (by go_simp) ?_
  refine ((cH) _).mono ?_
  rintro e wk21 ⟨rfl, hk21⟩
  refine ⟨_, rfl, ?_⟩
  have hPN1_21 := (hPN1_20).gr hk21
  have hPN5_21 := (hPN5_20).gr hk21
  have hPN6_21 := (hPN6_20).gr hk21
  have hPN11_21 := (hPN11_20).gr hk21
  have hPN12_21 := (hPN12_20).gr hk21
  have hPN16_21 := (hPN16_20).gr hk21
  have hPN17_21 := (hPN17_20).gr hk21
  have hF_21 := (hF_20).then hk21
  simp only [Act.put, zs, z0, z1]
  refine sF rfl ?_
  refine wM (v := .bool false) rfl rfl ?_
  simp only [Act.put, zs, z0, z1]
  refine s_skip (by rfl) ?_
  simp only [Act.put, zs, z0, z1]
  refine s_skip (by rfl) ?_
  simp only [Act.put, zs, z0, z1]
  refine s_skip (by rfl) ?_
  simp only [Act.put, zs, z0, z1]
  refine s_skip (by rfl) ?_
  simp only [Act.put, zs, z0, z1]
  refine s_skip (by rfl) ?_
  simp only [Act.put, zs, z0, z1]
  refine s_skip (by rfl) ?_
  simp only [Act.put, zs, z0, z1]
  refine s_skip (by rfl) ?_
  simp only [Act.put, zs, z0, z1]
  refine s_skip (by rfl) ?_
  simp only [Act.put, zs, z0, z1]
  refine s_skip (by rfl) ?_
  simp only [Act.put, zs, z0, z1]
  refine s_skip (by rfl) ?_
  simp only [Act.put, zs, z0, z1]
  refine sF rfl ?_
  refine wp_pickF (v := .bool false) rfl rfl rfl ?_
  simp only [Act.put, zs, z0, z1]
  refine sF rfl ?_
  refine wM (v := .bool false) rfl rfl ?_
  simp only [Act.put, zs, z0, z1]
  refine s_skip (by rfl) ?_
  simp only [Act.put, zs, z0, z1]
  refine s_skip (by rfl) ?_
  simp only [Act.put, zs, z0, z1]
  refine s_skip (by rfl) ?_
  simp only [Act.put, zs, z0, z1]
  refine s_skip (by rfl) ?_
  simp only [Act.put, zs, z0, z1]
  refine s_skip (by rfl) ?_
  simp only [Act.put, zs, z0, z1]
  refine s_skip (by rfl) ?_
  simp only [Act.put, zs, z0, z1]
  refine s_skip (by rfl) ?_
  simp only [Act.put, zs, z0, z1]
  refine s_skip (by rfl) ?_
  simp only [Act.put, zs, z0, z1]
  refine s_skip (by rfl) ?_
  simp only [Act.put, zs, z0, z1]
  refine s_skip (by rfl) ?_
  simp only [Act.put, zs, z0, z1]
  refine s_skip (by rfl) ?_
  simp only [Act.put, zs, z0, z1]
  refine sF rfl ?_
  refine wp_pickF (v := .bool false) rfl rfl rfl ?_
  simp only [Act.put, zs, z0, z1]
  refine s_end ?_
  go_upto_region 10 with fail
  refine rG ?_
  refine sF rfl ?_
  refine wM (v := .bool false) rfl rfl ?_
  simp only [Act.put, zs, z0, z1]
  refine sF rfl ?_
  refine wM (v := .bool false) rfl rfl ?_
  simp only [Act.put, zs, z0, z1]
  refine s_do (by rfl) ?_
  refine wp_loadB rfl rfl (hPN11_21) ?_
  simp only [Act.put, zs, z0, z1]
  refine s_do (by rfl) ?_
  refine wp_call1 rfl rfl (by go_simp) ?_
  refine ((cNP) _).mono ?_
  rintro e wk22 ⟨rfl, hk22⟩
  refine ⟨_, rfl, ?_⟩
  have hPN1_22 := (hPN1_21).gr hk22
  have hPN5_22 := (hPN5_21).gr hk22
  have hPN6_22 := (hPN6_21).gr hk22
  have hPN11_22 := (hPN11_21).gr hk22
  have hPN12_22 := (hPN12_21).gr hk22
  have hPN16_22 := (hPN16_21).gr hk22
  have hPN17_22 := (hPN17_21).gr hk22
  have hF_22 := (hF_21).then hk22
  simp only [Act.put, zs, z0, z1]
  refine sF rfl ?_
  refine wp_pickF (v := .bool true) rfl rfl rfl ?_
  simp only [Act.put, zs, z0, z1]
  refine sF rfl ?_
  refine wM (v := .bool true) rfl rfl ?_
  simp only [Act.put, zs, z0, z1]
  refine s_do (by rfl) ?_
  refine wM (v := .bool true) rfl rfl ?_
  simp only [Act.put, zs, z0, z1]
  refine s_do (by rfl) ?_
  refine wM (v := .bool true) rfl rfl ?_
  simp only [Act.put, zs, z0, z1]
  refine s_skip (by rfl) ?_
  simp only [Act.put, zs, z0, z1]
  refine s_skip (by rfl) ?_
  simp only [Act.put, zs, z0, z1]
  refine s_do (by rfl) ?_
  refine wp_pickT (v := .bool true) rfl rfl rfl ?_
  simp only [Act.put, zs, z0, z1]
  refine sF rfl ?_
  refine wp_pickT (v := .bool true) rfl rfl rfl ?_
  simp only [Act.put, zs, z0, z1]
  refine sF rfl ?_
  refine wM (v := .bool true) rfl rfl ?_
  simp only [Act.put, zs, z0, z1]
  refine s_do (by rfl) ?_
  refine wp_call0 rfl (by go_simp) ?_
  refine ((k_works) _).mono ?_
  rintro e wk23 ⟨rfl, hk23⟩
  refine ⟨_, rfl, ?_⟩
  have hPN1_23 := (hPN1_22).gr hk23
  have hPN5_23 := (hPN5_22).gr hk23
  have hPN6_23 := (hPN6_22).gr hk23
  have hPN11_23 := (hPN11_22).gr hk23
  have hPN12_23 := (hPN12_22).gr hk23
  have hPN16_23 := (hPN16_22).gr hk23
  have hPN17_23 := (hPN17_22).gr hk23
  have hF_23 := (hF_22).then hk23
  simp only [Act.put, zs, z0, z1]
  refine sF rfl ?_
  refine wp_pickT (v := .bool true) rfl rfl rfl ?_
  simp only [Act.put, zs, z0, z1]
  refine sF rfl ?_
  refine wA (v := .bool true) rfl rfl ?_
  simp only [Act.put, zs, z0, z1]
  refine s_end ?_
  go_wp2
  go_ret
  exact ⟨rfl, (hF_23).gr0⟩
 ·have cT := cT0; have cF := cF0; have cA := cA0; have cH := cH0
  rw [e1] at cT; rw [e2] at cF; rw [es] at cA; rw [eh] at cH
  have cNP := nP e1
  clear cT0 cF0 cA0 cH0 K hPy hQy nP nQ eP1 eP2 eQ1 eQ2 e1 e2 eh es
  simp only [Act.put, zs, z0, z1]
  refine sF rfl ?_
  refine wp_call1 rfl rfl (by go_simp) ?_
  refine ((cS) _).mono ?_
  rintro e wk3 ⟨rfl, hk3⟩
  refine ⟨_, rfl, ?_⟩
  have hPN1_3 := (hPN1_2).gr hk3
  have hF_3 := (hF_2).then hk3
  simp only [Act.put, zs, z0, z1]
  refine sF rfl ?_
  refine wM (v := .int .u64 (iv nn)) rfl rfl ?_
  simp only [Act.put, zs, z0, z1]
  refine sF rfl ?_
  refine wp_call1 rfl rfl (by go_simp) ?_
  refine ((cC) _).mono ?_
  rintro e wk4 ⟨rfl, hk4⟩
  refine ⟨_, rfl, ?_⟩
  have hPN1_4 := (hPN1_3).gr hk4
  have hF_4 := (hF_3).then hk4
  simp only [Act.put, zs, z0, z1]
  refine sF rfl ?_
  refine wp_allocB rfl ?_
  intro ws5 hn5 hg5
  obtain ⟨PN5, hb5⟩ : ∃ b, wk4.heap.size = b := ⟨_, rfl⟩
  rw [hb5] at hn5 ⊢
  have hge5 := Nat.le_trans (hF_4).size (Nat.le_of_eq hb5)
  have hnePN1_PN5 : PN1 ≠ PN5 := nl (hPN1_4).lt hb5
  have hPN1_5 := (hPN1_4).gr hg5
  have hF_5 := (hF_4).then hg5
  simp only [Act.put, zs, z0, z1]
  refine sF rfl ?_
  refine wp_allocB rfl ?_
  intro ws6 hn6 hg6
  obtain ⟨PN6, hb6⟩ : ∃ b, ws5.heap.size = b := ⟨_, rfl⟩
  rw [hb6] at hn6 ⊢
  have hge6 := Nat.le_trans (hF_5).size (Nat.le_of_eq hb6)
  have hnePN1_PN6 : PN1 ≠ PN6 := nl (hPN1_5).lt hb6
  have hnePN5_PN6 : PN5 ≠ PN6 := nl (hn5).lt hb6
  have hPN1_6 := (hPN1_5).gr hg6
  have hPN5_6 := (hn5).gr hg6
  have hF_6 := (hF_5).then hg6
  simp only [Act.put, zs, z0, z1]
  refine sF rfl ?_
  refine wp_storeB rfl rfl rfl (hPN5_6) ?_
  intro ws7 hs7 gx7
  have hPN1_7 := (hPN1_6).grx gx7 hnePN1_PN5
  have hPN6_7 := (hn6).grx gx7 (Ne.symm hnePN5_PN6)
  have hF_7 := (hF_6).thenx gx7 (.inr hge5)
  change AtA ws7 PN5 (bv A) 33 at hs7
  simp only [Act.put, zs, z0, z1]
  refine sF rfl ?_
  refine wp_storeB rfl rfl rfl (hPN6_7) ?_
  intro ws8 hs8 gx8
  have hPN1_8 := (hPN1_7).grx gx8 hnePN1_PN6
  have hPN5_8 := (hs7).grx gx8 hnePN5_PN6
  have hF_8 := (hF_7).thenx gx8 (.inr hge6)
  change AtA ws8 PN6 (bv C) 33 at hs8
  simp only [Act.put, zs, z0, z1]
  refine s_end ?_
  go_upto_region 2 with fail
  refine rG ?_
  refine sF rfl ?_
  refine wM (v := .int .u8 c) rfl rfl ?_
  simp only [Act.put, zs, z0, z1]
  refine sF rfl ?_
  refine wp_call1 rfl rfl (by go_simp) ?_
  refine ((cd) _).mono ?_
  rintro e wk9 ⟨rfl, hk9⟩
  refine ⟨_, rfl, ?_⟩
  have hPN1_9 := (hPN1_8).gr hk9
  have hPN5_9 := (hPN5_8).gr hk9
  have hPN6_9 := (hs8).gr hk9
  have hF_9 := (hF_8).then hk9
  simp only [Act.put, zs, z0, z1]
  refine sF rfl ?_
  refine wA (v := .int .u8 d) rfl rfl ?_
  simp only [Act.put, zs, z0, z1]
  refine s_end ?_
  go_upto_region 3 with fail
  refine rG ?_
  refine sF rfl ?_
  refine wM (v := .int .u8 d) rfl rfl ?_
  simp only [Act.put, zs, z0, z1]
  refine sF rfl ?_
  refine wM (v := .bool wd) rfl rfl ?_
  simp only [Act.put, zs, z0, z1]
  refine sF rfl ?_
  refine wp_loadB rfl rfl (hPN5_9) ?_
  simp only [Act.put, zs, z0, z1]
  refine sF rfl ?_
  refine wp_loadB rfl rfl (hPN6_9) ?_
  simp only [Act.put, zs, z0, z1]
  refine sF rfl ?_
  refine wp_call5 rfl rfl rfl rfl rfl rfl (by go_simp) ?_
  refine ((cT) _).mono ?_
  rintro e wk10 ⟨rfl, hk10⟩
  refine ⟨_, rfl, ?_⟩
  have hPN1_10 := (hPN1_9).gr hk10
  have hPN5_10 := (hPN5_9).gr hk10
  have hPN6_10 := (hPN6_9).gr hk10
  have hF_10 := (hF_9).then hk10
  simp only [Act.put, zs, z0, z1]
  refine sF rfl ?_
  refine wM (v := .tuple #[.agg (bv P1), .agg (bv P2), .bool false, .int .i64 0]) rfl rfl ?_
  simp only [Act.put, zs, z0, z1]
  refine sF rfl ?_
  refine wp_extract (v := .agg (bv P1)) rfl rfl rfl ?_
  simp only [Act.put, zs, z0, z1]
  refine sF rfl ?_
  refine wp_extract (v := .agg (bv P2)) rfl rfl rfl ?_
  simp only [Act.put, zs, z0, z1]
  refine sF rfl ?_
  refine wp_extract (v := .bool false) rfl rfl rfl ?_
  simp only [Act.put, zs, z0, z1]
  refine sF rfl ?_
  refine wp_extract (v := .int .i64 0) rfl rfl rfl ?_
  simp only [Act.put, zs, z0, z1]
  refine sF rfl ?_
  refine wp_allocB rfl ?_
  intro ws11 hn11 hg11
  obtain ⟨PN11, hb11⟩ : ∃ b, wk10.heap.size = b := ⟨_, rfl⟩
  rw [hb11] at hn11 ⊢
  have hge11 := Nat.le_trans (hF_10).size (Nat.le_of_eq hb11)
  have hnePN1_PN11 : PN1 ≠ PN11 := nl (hPN1_10).lt hb11
  have hnePN5_PN11 : PN5 ≠ PN11 := nl (hPN5_10).lt hb11
  have hnePN6_PN11 : PN6 ≠ PN11 := nl (hPN6_10).lt hb11
  have hPN1_11 := (hPN1_10).gr hg11
  have hPN5_11 := (hPN5_10).gr hg11
  have hPN6_11 := (hPN6_10).gr hg11
  have hF_11 := (hF_10).then hg11
  simp only [Act.put, zs, z0, z1]
  refine sF rfl ?_
  refine wp_allocB rfl ?_
  intro ws12 hn12 hg12
  obtain ⟨PN12, hb12⟩ : ∃ b, ws11.heap.size = b := ⟨_, rfl⟩
  rw [hb12] at hn12 ⊢
  have hge12 := Nat.le_trans (hF_11).size (Nat.le_of_eq hb12)
  have hnePN1_PN12 : PN1 ≠ PN12 := nl (hPN1_11).lt hb12
  have hnePN5_PN12 : PN5 ≠ PN12 := nl (hPN5_11).lt hb12
  have hnePN6_PN12 : PN6 ≠ PN12 := nl (hPN6_11).lt hb12
  have hnePN11_PN12 : PN11 ≠ PN12 := nl (hn11).lt hb12
  have hPN1_12 := (hPN1_11).gr hg12
  have hPN5_12 := (hPN5_11).gr hg12
  have hPN6_12 := (hPN6_11).gr hg12
  have hPN11_12 := (hn11).gr hg12
  have hF_12 := (hF_11).then hg12
  simp only [Act.put, zs, z0, z1]
  refine sF rfl ?_
  refine wp_storeB rfl rfl rfl (hPN11_12) ?_
  intro ws13 hs13 gx13
  have hPN1_13 := (hPN1_12).grx gx13 hnePN1_PN11
  have hPN5_13 := (hPN5_12).grx gx13 hnePN5_PN11
  have hPN6_13 := (hPN6_12).grx gx13 hnePN6_PN11
  have hPN12_13 := (hn12).grx gx13 (Ne.symm hnePN11_PN12)
  have hF_13 := (hF_12).thenx gx13 (.inr hge11)
  change AtA ws13 PN11 (bv P1) 33 at hs13
  simp only [Act.put, zs, z0, z1]
  refine sF rfl ?_
  refine wp_storeB rfl rfl rfl (hPN12_13) ?_
  intro ws14 hs14 gx14
  have hPN1_14 := (hPN1_13).grx gx14 hnePN1_PN12
  have hPN5_14 := (hPN5_13).grx gx14 hnePN5_PN12
  have hPN6_14 := (hPN6_13).grx gx14 hnePN6_PN12
  have hPN11_14 := (hs13).grx gx14 hnePN11_PN12
  have hF_14 := (hF_13).thenx gx14 (.inr hge12)
  change AtA ws14 PN12 (bv P2) 33 at hs14
  simp only [Act.put, zs, z0, z1]
  refine sF rfl ?_
  refine wA (v := .bool false) rfl rfl ?_
  simp only [Act.put, zs, z0, z1]
  refine sF rfl ?_
  refine wA (v := .int .i64 0) rfl rfl ?_
  simp only [Act.put, zs, z0, z1]
  refine s_end ?_
  go_upto_region 4 with fail
  refine rG ?_
  refine sF rfl ?_
  refine wM (v := .int .u8 d) rfl rfl ?_
  simp only [Act.put, zs, z0, z1]
  refine sF rfl ?_
  refine wM (v := .bool wd) rfl rfl ?_
  simp only [Act.put, zs, z0, z1]
  refine sF rfl ?_
  refine wp_loadB rfl rfl (hPN5_14) ?_
  simp only [Act.put, zs, z0, z1]
  refine sF rfl ?_
  refine wp_loadB rfl rfl (hPN6_14) ?_
  simp only [Act.put, zs, z0, z1]
  refine sF rfl ?_
  refine wp_call5 rfl rfl rfl rfl rfl rfl (by go_simp) ?_
  refine ((cF) _).mono ?_
  rintro e wk15 ⟨rfl, hk15⟩
  refine ⟨_, rfl, ?_⟩
  have hPN1_15 := (hPN1_14).gr hk15
  have hPN5_15 := (hPN5_14).gr hk15
  have hPN6_15 := (hPN6_14).gr hk15
  have hPN11_15 := (hPN11_14).gr hk15
  have hPN12_15 := (hs14).gr hk15
  have hF_15 := (hF_14).then hk15
  simp only [Act.put, zs, z0, z1]
  refine sF rfl ?_
  refine wM (v := .tuple #[.agg (bv Q1), .agg (bv Q2), .bool true, .int .i64 0]) rfl rfl ?_
  simp only [Act.put, zs, z0, z1]
  refine sF rfl ?_
  refine wp_extract (v := .agg (bv Q1)) rfl rfl rfl ?_
  simp only [Act.put, zs, z0, z1]
  refine sF rfl ?_
  refine wp_extract (v := .agg (bv Q2)) rfl rfl rfl ?_
  simp only [Act.put, zs, z0, z1]
  refine sF rfl ?_
  refine wp_extract (v := .bool true) rfl rfl rfl ?_
  simp only [Act.put, zs, z0, z1]
  refine sF rfl ?_
  refine wp_extract (v := .int .i64 0) rfl rfl rfl ?_
  simp only [Act.put, zs, z0, z1]
  refine sF rfl ?_
  refine wp_allocB rfl ?_
  intro ws16 hn16 hg16
  obtain ⟨PN16, hb16⟩ : ∃ b, wk15.heap.size = b := ⟨_, rfl⟩
  rw [hb16] at hn16 ⊢
  have hge16 := Nat.le_trans (hF_15).size (Nat.le_of_eq hb16)
  have hnePN1_PN16 : PN1 ≠ PN16 := nl (hPN1_15).lt hb16
  have hnePN5_PN16 : PN5 ≠ PN16 := nl (hPN5_15).lt hb16
  have hnePN6_PN16 : PN6 ≠ PN16 := nl (hPN6_15).lt hb16
  have hnePN11_PN16 : PN11 ≠ PN16 := nl (hPN11_15).lt hb16
  have hnePN12_PN16 : PN12 ≠ PN16 := nl (hPN12_15).lt hb16
  have hPN1_16 := (hPN1_15).gr hg16
  have hPN5_16 := (hPN5_15).gr hg16
  have hPN6_16 := (hPN6_15).gr hg16
  have hPN11_16 := (hPN11_15).gr hg16
  have hPN12_16 := (hPN12_15).gr hg16
  have hF_16 := (hF_15).then hg16
  simp only [Act.put, zs, z0, z1]
  refine sF rfl ?_
  refine wp_allocB rfl ?_
  intro ws17 hn17 hg17
  obtain ⟨PN17, hb17⟩ : ∃ b, ws16.heap.size = b := ⟨_, rfl⟩
  rw [hb17] at hn17 ⊢
  have hge17 := Nat.le_trans (hF_16).size (Nat.le_of_eq hb17)
  have hnePN1_PN17 : PN1 ≠ PN17 := nl (hPN1_16).lt hb17
  have hnePN5_PN17 : PN5 ≠ PN17 := nl (hPN5_16).lt hb17
  have hnePN6_PN17 : PN6 ≠ PN17 := nl (hPN6_16).lt hb17
  have hnePN11_PN17 : PN11 ≠ PN17 := nl (hPN11_16).lt hb17
  have hnePN12_PN17 : PN12 ≠ PN17 := nl (hPN12_16).lt hb17
  have hnePN16_PN17 : PN16 ≠ PN17 := nl (hn16).lt hb17
  have hPN1_17 := (hPN1_16).gr hg17
  have hPN5_17 := (hPN5_16).gr hg17
  have hPN6_17 := (hPN6_16).gr hg17
  have hPN11_17 := (hPN11_16).gr hg17
  have hPN12_17 := (hPN12_16).gr hg17
  have hPN16_17 := (hn16).gr hg17
  have hF_17 := (hF_16).then hg17
  simp only [Act.put, zs, z0, z1]
  refine sF rfl ?_
  refine wp_storeB rfl rfl rfl (hPN16_17) ?_
  intro ws18 hs18 gx18
  have hPN1_18 := (hPN1_17).grx gx18 hnePN1_PN16
  have hPN5_18 := (hPN5_17).grx gx18 hnePN5_PN16
  have hPN6_18 := (hPN6_17).grx gx18 hnePN6_PN16
  have hPN11_18 := (hPN11_17).grx gx18 hnePN11_PN16
  have hPN12_18 := (hPN12_17).grx gx18 hnePN12_PN16
  have hPN17_18 := (hn17).grx gx18 (Ne.symm hnePN16_PN17)
  have hF_18 := (hF_17).thenx gx18 (.inr hge16)
  change AtA ws18 PN16 (bv Q1) 33 at hs18
  simp only [Act.put, zs, z0, z1]
  refine sF rfl ?_
  refine wp_storeB rfl rfl rfl (hPN17_18) ?_
  intro ws19 hs19 gx19
  have hPN1_19 := (hPN1_18).grx gx19 hnePN1_PN17
  have hPN5_19 := (hPN5_18).grx gx19 hnePN5_PN17
  have hPN6_19 := (hPN6_18).grx gx19 hnePN6_PN17
  have hPN11_19 := (hPN11_18).grx gx19 hnePN11_PN17
  have hPN12_19 := (hPN12_18).grx gx19 hnePN12_PN17
  have hPN16_19 := (hs18).grx gx19 hnePN16_PN17
  have hF_19 := (hF_18).thenx gx19 (.inr hge17)
  change AtA ws19 PN17 (bv Q2) 33 at hs19
  simp only [Act.put, zs, z0, z1]
  refine sF rfl ?_
  refine wA (v := .bool true) rfl rfl ?_
  simp only [Act.put, zs, z0, z1]
  refine sF rfl ?_
  refine wA (v := .int .i64 0) rfl rfl ?_
  simp only [Act.put, zs, z0, z1]
  refine s_end ?_
  go_upto_region 5 with fail
  refine rG ?_
  refine sF rfl ?_
  refine wM (v := .int .u8 d) rfl rfl ?_
  simp only [Act.put, zs, z0, z1]
  refine sF rfl ?_
  refine wM (v := .bool wd) rfl rfl ?_
  simp only [Act.put, zs, z0, z1]
  refine sF rfl ?_
  refine wM (v := .int .u64 (iv y)) rfl rfl ?_
  simp only [Act.put, zs, z0, z1]
  refine sF rfl ?_
  refine wM (v := .int .u64 (iv nn)) rfl rfl ?_
  simp only [Act.put, zs, z0, z1]
  refine sF rfl ?_
  refine wp_call4 rfl rfl rfl rfl rfl (by go_simp) ?_
  refine ((cA) _).mono ?_
  rintro e wk20 ⟨rfl, hk20⟩
  refine ⟨_, rfl, ?_⟩
  have hPN1_20 := (hPN1_19).gr hk20
  have hPN5_20 := (hPN5_19).gr hk20
  have hPN6_20 := (hPN6_19).gr hk20
  have hPN11_20 := (hPN11_19).gr hk20
  have hPN12_20 := (hPN12_19).gr hk20
  have hPN16_20 := (hPN16_19).gr hk20
  have hPN17_20 := (hs19).gr hk20
  have hF_20 := (hF_19).then hk20
  simp only [Act.put, zs, z0, z1]
  refine sF rfl ?_
  refine wM (v := .tuple #[.bool true, .int .i64 0]) rfl rfl ?_
  simp only [Act.put, zs, z0, z1]
  refine sF rfl ?_
  refine wp_extract (v := .bool true) rfl rfl rfl ?_
  simp only [Act.put, zs, z0, z1]
  refine sF rfl ?_
  refine wp_extract (v := .int .i64 0) rfl rfl rfl ?_
  simp only [Act.put, zs, z0, z1]
  refine sF rfl ?_
  refine wA (v := .bool true) rfl rfl ?_
  simp only [Act.put, zs, z0, z1]
  refine sF rfl ?_
  refine wA (v := .int .i64 0) rfl rfl ?_
  simp only [Act.put, zs, z0, z1]
  refine s_end ?_
  go_upto_region 6 with fail
  refine rG ?_
  refine sF rfl ?_
  refine wM (v := .int .i64 0) rfl rfl ?_
  simp only [Act.put, zs, z0, z1]
  refine sF rfl ?_
  refine wp_neE rfl rfl ?_
  simp only [Act.put, zs, z0, z1]
  refine sF rfl ?_
  refine wM (v := .bool false) rfl rfl ?_
  simp only [Act.put, zs, z0, z1]
  refine s_do (by rfl) ?_
  refine wM (v := .int .i64 0) rfl rfl ?_
  simp only [Act.put, zs, z0, z1]
  refine s_do (by rfl) ?_
  refine wp_neE rfl rfl ?_
  simp only [Act.put, zs, z0, z1]
  refine sF rfl ?_
  refine wp_pickF (v := .bool false) rfl rfl rfl ?_
  simp only [Act.put, zs, z0, z1]
  refine sF rfl ?_
  refine wM (v := .bool false) rfl rfl ?_
  simp only [Act.put, zs, z0, z1]
  refine s_do (by rfl) ?_
  refine wM (v := .int .i64 0) rfl rfl ?_
  simp only [Act.put, zs, z0, z1]
  refine s_do (by rfl) ?_
  refine wp_neE rfl rfl ?_
  simp only [Act.put, zs, z0, z1]
  refine sF rfl ?_
  refine wp_pickF (v := .bool false) rfl rfl rfl ?_
  simp only [Act.put, zs, z0, z1]
  refine sF rfl ?_
  refine wM (v := .bool false) rfl rfl ?_
  simp only [Act.put, zs, z0, z1]
  refine s_do (by rfl) ?_
  refine wM (v := .bool false) rfl rfl ?_
  simp only [Act.put, zs, z0, z1]
  refine s_do (by rfl) ?_
  refine wp_notF rfl rfl ?_
  simp only [Act.put, zs, z0, z1]
  refine s_do (by rfl) ?_
  refine wM (v := .bool true) rfl rfl ?_
  simp only [Act.put, zs, z0, z1]
  refine s_do (by rfl) ?_
  refine wM (v := .bool true) rfl rfl ?_
  simp only [Act.put, zs, z0, z1]
  refine s_do (by rfl) ?_
  refine wp_notT rfl rfl ?_
  simp only [Act.put, zs, z0, z1]
  refine s_do (by rfl) ?_
  refine wp_pickT (v := .bool false) rfl rfl rfl ?_
  simp only [Act.put, zs, z0, z1]
  refine sF rfl ?_
  refine wp_pickF (v := .bool false) rfl rfl rfl ?_
  simp only [Act.put, zs, z0, z1]
  refine s_end ?_
  go_upto_region 8 with fail
  refine rG ?_
  refine sF rfl ?_
  refine wp_loadB rfl rfl (hPN5_20) ?_
  simp only [Act.put, zs, z0, z1]
  refine sF rfl ?_
  refine wM (v := .int .u64 (iv y)) rfl rfl ?_
  simp only [Act.put, zs, z0, z1]
  refine sF rfl ?_
  refine wp_call2 rfl rfl rfl (by go_simp) ?_
  refine ((cH) _).mono ?_
  rintro e wk21 ⟨rfl, hk21⟩
  refine ⟨_, rfl, ?_⟩
  have hPN1_21 := (hPN1_20).gr hk21
  have hPN5_21 := (hPN5_20).gr hk21
  have hPN6_21 := (hPN6_20).gr hk21
  have hPN11_21 := (hPN11_20).gr hk21
  have hPN12_21 := (hPN12_20).gr hk21
  have hPN16_21 := (hPN16_20).gr hk21
  have hPN17_21 := (hPN17_20).gr hk21
  have hF_21 := (hF_20).then hk21
  simp only [Act.put, zs, z0, z1]
  refine sF rfl ?_
  refine wM (v := .bool false) rfl rfl ?_
  simp only [Act.put, zs, z0, z1]
  refine s_skip (by rfl) ?_
  simp only [Act.put, zs, z0, z1]
  refine s_skip (by rfl) ?_
  simp only [Act.put, zs, z0, z1]
  refine s_skip (by rfl) ?_
  simp only [Act.put, zs, z0, z1]
  refine s_skip (by rfl) ?_
  simp only [Act.put, zs, z0, z1]
  refine s_skip (by rfl) ?_
  simp only [Act.put, zs, z0, z1]
  refine s_skip (by rfl) ?_
  simp only [Act.put, zs, z0, z1]
  refine s_skip (by rfl) ?_
  simp only [Act.put, zs, z0, z1]
  refine s_skip (by rfl) ?_
  simp only [Act.put, zs, z0, z1]
  refine s_skip (by rfl) ?_
  simp only [Act.put, zs, z0, z1]
  refine s_skip (by rfl) ?_
  simp only [Act.put, zs, z0, z1]
  refine sF rfl ?_
  refine wp_pickF (v := .bool false) rfl rfl rfl ?_
  simp only [Act.put, zs, z0, z1]
  refine sF rfl ?_
  refine wM (v := .bool false) rfl rfl ?_
  simp only [Act.put, zs, z0, z1]
  refine s_skip (by rfl) ?_
  simp only [Act.put, zs, z0, z1]
  refine s_skip (by rfl) ?_
  simp only [Act.put, zs, z0, z1]
  refine s_skip (by rfl) ?_
  simp only [Act.put, zs, z0, z1]
  refine s_skip (by rfl) ?_
  simp only [Act.put, zs, z0, z1]
  refine s_skip (by rfl) ?_
  simp only [Act.put, zs, z0, z1]
  refine s_skip (by rfl) ?_
  simp only [Act.put, zs, z0, z1]
  refine s_skip (by rfl) ?_
  simp only [Act.put, zs, z0, z1]
  refine s_skip (by rfl) ?_
  simp only [Act.put, zs, z0, z1]
  refine s_skip (by rfl) ?_
  simp only [Act.put, zs, z0, z1]
  refine s_skip (by rfl) ?_
  simp only [Act.put, zs, z0, z1]
  refine s_skip (by rfl) ?_
  simp only [Act.put, zs, z0, z1]
  refine sF rfl ?_
  refine wp_pickF (v := .bool false) rfl rfl rfl ?_
  simp only [Act.put, zs, z0, z1]
  refine s_end ?_
  go_upto_region 10 with fail
  refine rG ?_
  refine sF rfl ?_
  refine wM (v := .bool false) rfl rfl ?_
  simp only [Act.put, zs, z0, z1]
  refine sF rfl ?_
  refine wM (v := .bool false) rfl rfl ?_
  simp only [Act.put, zs, z0, z1]
  refine s_do (by rfl) ?_
  refine wp_loadB rfl rfl (hPN11_21) ?_
  simp only [Act.put, zs, z0, z1]
  refine s_do (by rfl) ?_
  refine wp_call1 rfl rfl (by go_simp) ?_
  refine ((cNP) _).mono ?_
  rintro e wk22 ⟨rfl, hk22⟩
  refine ⟨_, rfl, ?_⟩
  have hPN1_22 := (hPN1_21).gr hk22
  have hPN5_22 := (hPN5_21).gr hk22
  have hPN6_22 := (hPN6_21).gr hk22
  have hPN11_22 := (hPN11_21).gr hk22
  have hPN12_22 := (hPN12_21).gr hk22
  have hPN16_22 := (hPN16_21).gr hk22
  have hPN17_22 := (hPN17_21).gr hk22
  have hF_22 := (hF_21).then hk22
  simp only [Act.put, zs, z0, z1]
  refine sF rfl ?_
  refine wp_pickF (v := .bool true) rfl rfl rfl ?_
  simp only [Act.put, zs, z0, z1]
  refine sF rfl ?_
  refine wM (v := .bool true) rfl rfl ?_
  simp only [Act.put, zs, z0, z1]
  refine s_do (by rfl) ?_
  refine wM (v := .bool true) rfl rfl ?_
  simp only [Act.put, zs, z0, z1]
  refine s_do (by rfl) ?_
  refine wM (v := .bool true) rfl rfl ?_
  simp only [Act.put, zs, z0, z1]
  refine s_skip (by rfl) ?_
  simp only [Act.put, zs, z0, z1]
  refine s_skip (by rfl) ?_
  simp only [Act.put, zs, z0, z1]
  refine s_do (by rfl) ?_
  refine wp_pickT (v := .bool true) rfl rfl rfl ?_
  simp only [Act.put, zs, z0, z1]
  refine sF rfl ?_
  refine wp_pickT (v := .bool true) rfl rfl rfl ?_
  simp only [Act.put, zs, z0, z1]
  refine sF rfl ?_
  refine wM (v := .bool true) rfl rfl ?_
  simp only [Act.put, zs, z0, z1]
  refine s_do (by rfl) ?_
  refine wp_call0 rfl (by go_simp) ?_
  refine ((k_works) _).mono ?_
  rintro e wk23 ⟨rfl, hk23⟩
  refine ⟨_, rfl, ?_⟩
  have hPN1_23 := (hPN1_22).gr hk23
  have hPN5_23 := (hPN5_22).gr hk23
  have hPN6_23 := (hPN6_22).gr hk23
  have hPN11_23 := (hPN11_22).gr hk23
  have hPN12_23 := (hPN12_22).gr hk23
  have hPN16_23 := (hPN16_22).gr hk23
  have hPN17_23 := (hPN17_22).gr hk23
  have hF_23 := (hF_22).then hk23
  simp only [Act.put, zs, z0, z1]
  refine sF rfl ?_
  refine wp_pickT (v := .bool true) rfl rfl rfl ?_
  simp only [Act.put, zs, z0, z1]
  refine sF rfl ?_
  refine wA (v := .bool true) rfl rfl ?_
  simp only [Act.put, zs, z0, z1]
  refine s_end ?_
  go_wp2
  go_ret
  exact ⟨rfl, (hF_23).gr0⟩
 ·have cT := cT0; have cF := cF0; have cA := cA0; have cH := cH0
  rw [e1] at cT; rw [e2] at cF; rw [es] at cA; rw [eh] at cH
  have cHQ := hQy eh es
  have cNP := nP e1
  clear cT0 cF0 cA0 cH0 K hPy hQy nP nQ eP1 eP2 eQ1 eQ2 e1 e2 eh es
  simp only [Act.put, zs, z0, z1]
  refine sF rfl ?_
  refine wp_call1 rfl rfl (by go_simp) ?_
  refine ((cS) _).mono ?_
  rintro e wk3 ⟨rfl, hk3⟩
  refine ⟨_, rfl, ?_⟩
  have hPN1_3 := (hPN1_2).gr hk3
  have hF_3 := (hF_2).then hk3
  simp only [Act.put, zs, z0, z1]
  refine sF rfl ?_
  refine wM (v := .int .u64 (iv nn)) rfl rfl ?_
  simp only [Act.put, zs, z0, z1]
  refine sF rfl ?_
  refine wp_call1 rfl rfl (by go_simp) ?_
  refine ((cC) _).mono ?_
  rintro e wk4 ⟨rfl, hk4⟩
  refine ⟨_, rfl, ?_⟩
  have hPN1_4 := (hPN1_3).gr hk4
  have hF_4 := (hF_3).then hk4
  simp only [Act.put, zs, z0, z1]
  refine sF rfl ?_
  refine wp_allocB rfl ?_
  intro ws5 hn5 hg5
  obtain ⟨PN5, hb5⟩ : ∃ b, wk4.heap.size = b := ⟨_, rfl⟩
  rw [hb5] at hn5 ⊢
  have hge5 := Nat.le_trans (hF_4).size (Nat.le_of_eq hb5)
  have hnePN1_PN5 : PN1 ≠ PN5 := nl (hPN1_4).lt hb5
  have hPN1_5 := (hPN1_4).gr hg5
  have hF_5 := (hF_4).then hg5
  simp only [Act.put, zs, z0, z1]
  refine sF rfl ?_
  refine wp_allocB rfl ?_
  intro ws6 hn6 hg6
  obtain ⟨PN6, hb6⟩ : ∃ b, ws5.heap.size = b := ⟨_, rfl⟩
  rw [hb6] at hn6 ⊢
  have hge6 := Nat.le_trans (hF_5).size (Nat.le_of_eq hb6)
  have hnePN1_PN6 : PN1 ≠ PN6 := nl (hPN1_5).lt hb6
  have hnePN5_PN6 : PN5 ≠ PN6 := nl (hn5).lt hb6
  have hPN1_6 := (hPN1_5).gr hg6
  have hPN5_6 := (hn5).gr hg6
  have hF_6 := (hF_5).then hg6
  simp only [Act.put, zs, z0, z1]
  refine sF rfl ?_
  refine wp_storeB rfl rfl rfl (hPN5_6) ?_
  intro ws7 hs7 gx7
  have hPN1_7 := (hPN1_6).grx gx7 hnePN1_PN5
  have hPN6_7 := (hn6).grx gx7 (Ne.symm hnePN5_PN6)
  have hF_7 := (hF_6).thenx gx7 (.inr hge5)
  change AtA ws7 PN5 (bv A) 33 at hs7
  simp only [Act.put, zs, z0, z1]
  refine sF rfl ?_
  refine wp_storeB rfl rfl rfl (hPN6_7) ?_
  intro ws8 hs8 gx8
  have hPN1_8 := (hPN1_7).grx gx8 hnePN1_PN6
  have hPN5_8 := (hs7).grx gx8 hnePN5_PN6
  have hF_8 := (hF_7).thenx gx8 (.inr hge6)
  change AtA ws8 PN6 (bv C) 33 at hs8
  simp only [Act.put, zs, z0, z1]
  refine s_end ?_
  go_upto_region 2 with fail
  refine rG ?_
  refine sF rfl ?_
  refine wM (v := .int .u8 c) rfl rfl ?_
  simp only [Act.put, zs, z0, z1]
  refine sF rfl ?_
  refine wp_call1 rfl rfl (by go_simp) ?_
  refine ((cd) _).mono ?_
  rintro e wk9 ⟨rfl, hk9⟩
  refine ⟨_, rfl, ?_⟩
  have hPN1_9 := (hPN1_8).gr hk9
  have hPN5_9 := (hPN5_8).gr hk9
  have hPN6_9 := (hs8).gr hk9
  have hF_9 := (hF_8).then hk9
  simp only [Act.put, zs, z0, z1]
  refine sF rfl ?_
  refine wA (v := .int .u8 d) rfl rfl ?_
  simp only [Act.put, zs, z0, z1]
  refine s_end ?_
  go_upto_region 3 with fail
  refine rG ?_
  refine sF rfl ?_
  refine wM (v := .int .u8 d) rfl rfl ?_
  simp only [Act.put, zs, z0, z1]
  refine sF rfl ?_
  refine wM (v := .bool wd) rfl rfl ?_
  simp only [Act.put, zs, z0, z1]
  refine sF rfl ?_
  refine wp_loadB rfl rfl (hPN5_9) ?_
  simp only [Act.put, zs, z0, z1]
  refine sF rfl ?_
  refine wp_loadB rfl rfl (hPN6_9) ?_
  simp only [Act.put, zs, z0, z1]
  refine sF rfl ?_
  refine wp_call5 rfl rfl rfl rfl rfl rfl (by go_simp) ?_
  refine ((cT) _).mono ?_
  rintro e wk10 ⟨rfl, hk10⟩
  refine ⟨_, rfl, ?_⟩
  have hPN1_10 := (hPN1_9).gr hk10
  have hPN5_10 := (hPN5_9).gr hk10
  have hPN6_10 := (hPN6_9).gr hk10
  have hF_10 := (hF_9).then hk10
  simp only [Act.put, zs, z0, z1]
  refine sF rfl ?_
  refine wM (v := .tuple #[.agg (bv P1), .agg (bv P2), .bool false, .int .i64 0]) rfl rfl ?_
  simp only [Act.put, zs, z0, z1]
  refine sF rfl ?_
  refine wp_extract (v := .agg (bv P1)) rfl rfl rfl ?_
  simp only [Act.put, zs, z0, z1]
  refine sF rfl ?_
  refine wp_extract (v := .agg (bv P2)) rfl rfl rfl ?_
  simp only [Act.put, zs, z0, z1]
  refine sF rfl ?_
  refine wp_extract (v := .bool false) rfl rfl rfl ?_
  simp only [Act.put, zs, z0, z1]
  refine sF rfl ?_
  refine wp_extract (v := .int .i64 0) rfl rfl rfl ?_
  simp only [Act.put, zs, z0, z1]
  refine sF rfl ?_
  refine wp_allocB rfl ?_
  intro ws11 hn11 hg11
  obtain ⟨PN11, hb11⟩ : ∃ b, wk10.heap.size = b := ⟨_, rfl⟩
  rw [hb11] at hn11 ⊢
  have hge11 := Nat.le_trans (hF_10).size (Nat.le_of_eq hb11)
  have hnePN1_PN11 : PN1 ≠ PN11 := nl (hPN1_10).lt hb11
  have hnePN5_PN11 : PN5 ≠ PN11 := nl (hPN5_10).lt hb11
  have hnePN6_PN11 : PN6 ≠ PN11 := nl (hPN6_10).lt hb11
  have hPN1_11 := (hPN1_10).gr hg11
  have hPN5_11 := (hPN5_10).gr hg11
  have hPN6_11 := (hPN6_10).gr hg11
  have hF_11 := (hF_10).then hg11
  simp only [Act.put, zs, z0, z1]
  refine sF rfl ?_
  refine wp_allocB rfl ?_
  intro ws12 hn12 hg12
  obtain ⟨PN12, hb12⟩ : ∃ b, ws11.heap.size = b := ⟨_, rfl⟩
  rw [hb12] at hn12 ⊢
  have hge12 := Nat.le_trans (hF_11).size (Nat.le_of_eq hb12)
  have hnePN1_PN12 : PN1 ≠ PN12 := nl (hPN1_11).lt hb12
  have hnePN5_PN12 : PN5 ≠ PN12 := nl (hPN5_11).lt hb12
  have hnePN6_PN12 : PN6 ≠ PN12 := nl (hPN6_11).lt hb12
  have hnePN11_PN12 : PN11 ≠ PN12 := nl (hn11).lt hb12
  have hPN1_12 := (hPN1_11).gr hg12
  have hPN5_12 := (hPN5_11).gr hg12
  have hPN6_12 := (hPN6_11).gr hg12
  have hPN11_12 := (hn11).gr hg12
  have hF_12 := (hF_11).then hg12
  simp only [Act.put, zs, z0, z1]
  refine sF rfl ?_
  refine wp_storeB rfl rfl rfl (hPN11_12) ?_
  intro ws13 hs13 gx13
  have hPN1_13 := (hPN1_12).grx gx13 hnePN1_PN11
  have hPN5_13 := (hPN5_12).grx gx13 hnePN5_PN11
  have hPN6_13 := (hPN6_12).grx gx13 hnePN6_PN11
  have hPN12_13 := (hn12).grx gx13 (Ne.symm hnePN11_PN12)
  have hF_13 := (hF_12).thenx gx13 (.inr hge11)
  change AtA ws13 PN11 (bv P1) 33 at hs13
  simp only [Act.put, zs, z0, z1]
  refine sF rfl ?_
  refine wp_storeB rfl rfl rfl (hPN12_13) ?_
  intro ws14 hs14 gx14
  have hPN1_14 := (hPN1_13).grx gx14 hnePN1_PN12
  have hPN5_14 := (hPN5_13).grx gx14 hnePN5_PN12
  have hPN6_14 := (hPN6_13).grx gx14 hnePN6_PN12
  have hPN11_14 := (hs13).grx gx14 hnePN11_PN12
  have hF_14 := (hF_13).thenx gx14 (.inr hge12)
  change AtA ws14 PN12 (bv P2) 33 at hs14
  simp only [Act.put, zs, z0, z1]
  refine sF rfl ?_
  refine wA (v := .bool false) rfl rfl ?_
  simp only [Act.put, zs, z0, z1]
  refine sF rfl ?_
  refine wA (v := .int .i64 0) rfl rfl ?_
  simp only [Act.put, zs, z0, z1]
  refine s_end ?_
  go_upto_region 4 with fail
  refine rG ?_
  refine sF rfl ?_
  refine wM (v := .int .u8 d) rfl rfl ?_
  simp only [Act.put, zs, z0, z1]
  refine sF rfl ?_
  refine wM (v := .bool wd) rfl rfl ?_
  simp only [Act.put, zs, z0, z1]
  refine sF rfl ?_
  refine wp_loadB rfl rfl (hPN5_14) ?_
  simp only [Act.put, zs, z0, z1]
  refine sF rfl ?_
  refine wp_loadB rfl rfl (hPN6_14) ?_
  simp only [Act.put, zs, z0, z1]
  refine sF rfl ?_
  refine wp_call5 rfl rfl rfl rfl rfl rfl (by go_simp) ?_
  refine ((cF) _).mono ?_
  rintro e wk15 ⟨rfl, hk15⟩
  refine ⟨_, rfl, ?_⟩
  have hPN1_15 := (hPN1_14).gr hk15
  have hPN5_15 := (hPN5_14).gr hk15
  have hPN6_15 := (hPN6_14).gr hk15
  have hPN11_15 := (hPN11_14).gr hk15
  have hPN12_15 := (hs14).gr hk15
  have hF_15 := (hF_14).then hk15
  simp only [Act.put, zs, z0, z1]
  refine sF rfl ?_
  refine wM (v := .tuple #[.agg (bv Q1), .agg (bv Q2), .bool true, .int .i64 0]) rfl rfl ?_
  simp only [Act.put, zs, z0, z1]
  refine sF rfl ?_
  refine wp_extract (v := .agg (bv Q1)) rfl rfl rfl ?_
  simp only [Act.put, zs, z0, z1]
  refine sF rfl ?_
  refine wp_extract (v := .agg (bv Q2)) rfl rfl rfl ?_
  simp only [Act.put, zs, z0, z1]
  refine sF rfl ?_
  refine wp_extract (v := .bool true) rfl rfl rfl ?_
  simp only [Act.put, zs, z0, z1]
  refine sF rfl ?_
  refine wp_extract (v := .int .i64 0) rfl rfl rfl ?_
  simp only [Act.put, zs, z0, z1]
  refine sF rfl ?_
  refine wp_allocB rfl ?_
  intro ws16 hn16 hg16
  obtain ⟨PN16, hb16⟩ : ∃ b, wk15.heap.size = b := ⟨_, rfl⟩
  rw [hb16] at hn16 ⊢
  have hge16 := Nat.le_trans (hF_15).size (Nat.le_of_eq hb16)
  have hnePN1_PN16 : PN1 ≠ PN16 := nl (hPN1_15).lt hb16
  have hnePN5_PN16 : PN5 ≠ PN16 := nl (hPN5_15).lt hb16
  have hnePN6_PN16 : PN6 ≠ PN16 := nl (hPN6_15).lt hb16
  have hnePN11_PN16 : PN11 ≠ PN16 := nl (hPN11_15).lt hb16
  have hnePN12_PN16 : PN12 ≠ PN16 := nl (hPN12_15).lt hb16
  have hPN1_16 := (hPN1_15).gr hg16
  have hPN5_16 := (hPN5_15).gr hg16
  have hPN6_16 := (hPN6_15).gr hg16
  have hPN11_16 := (hPN11_15).gr hg16
  have hPN12_16 := (hPN12_15).gr hg16
  have hF_16 := (hF_15).then hg16
  simp only [Act.put, zs, z0, z1]
  refine sF rfl ?_
  refine wp_allocB rfl ?_
  intro ws17 hn17 hg17
  obtain ⟨PN17, hb17⟩ : ∃ b, ws16.heap.size = b := ⟨_, rfl⟩
  rw [hb17] at hn17 ⊢
  have hge17 := Nat.le_trans (hF_16).size (Nat.le_of_eq hb17)
  have hnePN1_PN17 : PN1 ≠ PN17 := nl (hPN1_16).lt hb17
  have hnePN5_PN17 : PN5 ≠ PN17 := nl (hPN5_16).lt hb17
  have hnePN6_PN17 : PN6 ≠ PN17 := nl (hPN6_16).lt hb17
  have hnePN11_PN17 : PN11 ≠ PN17 := nl (hPN11_16).lt hb17
  have hnePN12_PN17 : PN12 ≠ PN17 := nl (hPN12_16).lt hb17
  have hnePN16_PN17 : PN16 ≠ PN17 := nl (hn16).lt hb17
  have hPN1_17 := (hPN1_16).gr hg17
  have hPN5_17 := (hPN5_16).gr hg17
  have hPN6_17 := (hPN6_16).gr hg17
  have hPN11_17 := (hPN11_16).gr hg17
  have hPN12_17 := (hPN12_16).gr hg17
  have hPN16_17 := (hn16).gr hg17
  have hF_17 := (hF_16).then hg17
  simp only [Act.put, zs, z0, z1]
  refine sF rfl ?_
  refine wp_storeB rfl rfl rfl (hPN16_17) ?_
  intro ws18 hs18 gx18
  have hPN1_18 := (hPN1_17).grx gx18 hnePN1_PN16
  have hPN5_18 := (hPN5_17).grx gx18 hnePN5_PN16
  have hPN6_18 := (hPN6_17).grx gx18 hnePN6_PN16
  have hPN11_18 := (hPN11_17).grx gx18 hnePN11_PN16
  have hPN12_18 := (hPN12_17).grx gx18 hnePN12_PN16
  have hPN17_18 := (hn17).grx gx18 (Ne.symm hnePN16_PN17)
  have hF_18 := (hF_17).thenx gx18 (.inr hge16)
  change AtA ws18 PN16 (bv Q1) 33 at hs18
  simp only [Act.put, zs, z0, z1]
  refine sF rfl ?_
  refine wp_storeB rfl rfl rfl (hPN17_18) ?_
  intro ws19 hs19 gx19
  have hPN1_19 := (hPN1_18).grx gx19 hnePN1_PN17
  have hPN5_19 := (hPN5_18).grx gx19 hnePN5_PN17
  have hPN6_19 := (hPN6_18).grx gx19 hnePN6_PN17
  have hPN11_19 := (hPN11_18).grx gx19 hnePN11_PN17
  have hPN12_19 := (hPN12_18).grx gx19 hnePN12_PN17
  have hPN16_19 := (hs18).grx gx19 hnePN16_PN17
  have hF_19 := (hF_18).thenx gx19 (.inr hge17)
  change AtA ws19 PN17 (bv Q2) 33 at hs19
  simp only [Act.put, zs, z0, z1]
  refine sF rfl ?_
  refine wA (v := .bool true) rfl rfl ?_
  simp only [Act.put, zs, z0, z1]
  refine sF rfl ?_
  refine wA (v := .int .i64 0) rfl rfl ?_
  simp only [Act.put, zs, z0, z1]
  refine s_end ?_
  go_upto_region 5 with fail
  refine rG ?_
  refine sF rfl ?_
  refine wM (v := .int .u8 d) rfl rfl ?_
  simp only [Act.put, zs, z0, z1]
  refine sF rfl ?_
  refine wM (v := .bool wd) rfl rfl ?_
  simp only [Act.put, zs, z0, z1]
  refine sF rfl ?_
  refine wM (v := .int .u64 (iv y)) rfl rfl ?_
  simp only [Act.put, zs, z0, z1]
  refine sF rfl ?_
  refine wM (v := .int .u64 (iv nn)) rfl rfl ?_
  simp only [Act.put, zs, z0, z1]
  refine sF rfl ?_
  refine wp_call4 rfl rfl rfl rfl rfl (by go_simp) ?_
  refine ((cA) _).mono ?_
  rintro e wk20 ⟨rfl, hk20⟩
  refine ⟨_, rfl, ?_⟩
  have hPN1_20 := (hPN1_19).gr hk20
  have hPN5_20 := (hPN5_19).gr hk20
  have hPN6_20 := (hPN6_19).gr hk20
  have hPN11_20 := (hPN11_19).gr hk20
  have hPN12_20 := (hPN12_19).gr hk20
  have hPN16_20 := (hPN16_19).gr hk20
  have hPN17_20 := (hs19).gr hk20
  have hF_20 := (hF_19).then hk20
  simp only [Act.put, zs, z0, z1]
  refine sF rfl ?_
  refine wM (v := .tuple #[.bool false, .int .i64 0]) rfl rfl ?_
  simp only [Act.put, zs, z0, z1]
  refine sF rfl ?_
  refine wp_extract (v := .bool false) rfl rfl rfl ?_
  simp only [Act.put, zs, z0, z1]
  refine sF rfl ?_
  refine wp_extract (v := .int .i64 0) rfl rfl rfl ?_
  simp only [Act.put, zs, z0, z1]
  refine sF rfl ?_
  refine wA (v := .bool false) rfl rfl ?_
  simp only [Act.put, zs, z0, z1]
  refine sF rfl ?_
  refine wA (v := .int .i64 0) rfl rfl ?_
  simp only [Act.put, zs, z0, z1]
  refine s_end ?_
  go_upto_region 6 with fail
  refine rG ?_
  refine sF rfl ?_
  refine wM (v := .int .i64 0) rfl rfl ?_
  simp only [Act.put, zs, z0, z1]
  refine sF rfl ?_
  refine wp_neE rfl rfl ?_
  simp only [Act.put, zs, z0, z1]
  refine sF rfl ?_
  refine wM (v := .bool false) rfl rfl ?_
  simp only [Act.put, zs, z0, z1]
  refine s_do (by rfl) ?_
  refine wM (v := .int .i64 0) rfl rfl ?_
  simp only [Act.put, zs, z0, z1]
  refine s_do (by rfl) ?_
  refine wp_neE rfl rfl ?_
  simp only [Act.put, zs, z0, z1]
  refine sF rfl ?_
  refine wp_pickF (v := .bool false) rfl rfl rfl ?_
  simp only [Act.put, zs, z0, z1]
  refine sF rfl ?_
  refine wM (v := .bool false) rfl rfl ?_
  simp only [Act.put, zs, z0, z1]
  refine s_do (by rfl) ?_
  refine wM (v := .int .i64 0) rfl rfl ?_
  simp only [Act.put, zs, z0, z1]
  refine s_do (by rfl) ?_
  refine wp_neE rfl rfl ?_
  simp only [Act.put, zs, z0, z1]
  refine sF rfl ?_
  refine wp_pickF (v := .bool false) rfl rfl rfl ?_
  simp only [Act.put, zs, z0, z1]
  refine sF rfl ?_
  refine wM (v := .bool false) rfl rfl ?_
  simp only [Act.put, zs, z0, z1]
  refine s_do (by rfl) ?_
  refine wM (v := .bool false) rfl rfl ?_
  simp only [Act.put, zs, z0, z1]
  refine s_do (by rfl) ?_
  refine wp_notF rfl rfl ?_
  simp only [Act.put, zs, z0, z1]
  refine s_do (by rfl) ?_
  refine wM (v := .bool true) rfl rfl ?_
  simp only [Act.put, zs, z0, z1]
  refine s_do (by rfl) ?_
  refine wM (v := .bool true) rfl rfl ?_
  simp only [Act.put, zs, z0, z1]
  refine s_do (by rfl) ?_
  refine wp_notT rfl rfl ?_
  simp only [Act.put, zs, z0, z1]
  refine s_do (by rfl) ?_
  refine wp_pickT (v := .bool false) rfl rfl rfl ?_
  simp only [Act.put, zs, z0, z1]
  refine sF rfl ?_
  refine wp_pickF (v := .bool false) rfl rfl rfl ?_
  simp only [Act.put, zs, z0, z1]
  refine s_end ?_
  go_upto_region 8 with fail
  refine rG ?_
  refine sF rfl ?_
  refine wp_loadB rfl rfl (hPN5_20) ?_
  simp only [Act.put, zs, z0, z1]
  refine sF rfl ?_
  refine wM (v := .int .u64 (iv y)) rfl rfl ?_
  simp only [Act.put, zs, z0, z1]
  refine sF rfl ?_
  refine wp_call2 rfl rfl rfl (by go_simp) ?_
  refine ((cH) _).mono ?_
  rintro e wk21 ⟨rfl, hk21⟩
  refine ⟨_, rfl, ?_⟩
  have hPN1_21 := (hPN1_20).gr hk21
  have hPN5_21 := (hPN5_20).gr hk21
  have hPN6_21 := (hPN6_20).gr hk21
  have hPN11_21 := (hPN11_20).gr hk21
  have hPN12_21 := (hPN12_20).gr hk21
  have hPN16_21 := (hPN16_20).gr hk21
  have hPN17_21 := (hPN17_20).gr hk21
  have hF_21 := (hF_20).then hk21
  simp only [Act.put, zs, z0, z1]
  refine sF rfl ?_
  refine wM (v := .bool true) rfl rfl ?_
  simp only [Act.put, zs, z0, z1]
  refine s_do (by rfl) ?_
  refine wM (v := .bool false) rfl rfl ?_
  simp only [Act.put, zs, z0, z1]
  refine s_do (by rfl) ?_
  refine wM (v := .bool false) rfl rfl ?_
  simp only [Act.put, zs, z0, z1]
  refine s_skip (by rfl) ?_
  simp only [Act.put, zs, z0, z1]
  refine s_do (by rfl) ?_
  refine wp_pickF (v := .bool false) rfl rfl rfl ?_
  simp only [Act.put, zs, z0, z1]
  refine s_do (by rfl) ?_
  refine wM (v := .bool false) rfl rfl ?_
  simp only [Act.put, zs, z0, z1]
  refine s_skip (by rfl) ?_
  simp only [Act.put, zs, z0, z1]
  refine s_skip (by rfl) ?_
  simp only [Act.put, zs, z0, z1]
  refine s_skip (by rfl) ?_
  simp only [Act.put, zs, z0, z1]
  refine s_do (by rfl) ?_
  refine wp_pickF (v := .bool false) rfl rfl rfl ?_
  simp only [Act.put, zs, z0, z1]
  refine s_do (by rfl) ?_
  refine wp_notF rfl rfl ?_
  simp only [Act.put, zs, z0, z1]
  refine sF rfl ?_
  refine wp_pickT (v := .bool true) rfl rfl rfl ?_
  simp only [Act.put, zs, z0, z1]
  refine sF rfl ?_
  refine wM (v := .bool true) rfl rfl ?_
  simp only [Act.put, zs, z0, z1]
  refine s_do (by rfl) ?_
  refine wM (v := .bool false) rfl rfl ?_
  simp only [Act.put, zs, z0, z1]
  refine s_do (by rfl) ?_
  refine wp_notF rfl rfl ?_
  simp only [Act.put, zs, z0, z1]
  refine s_do (by rfl) ?_
  refine wM (v := .bool true) rfl rfl ?_
  simp only [Act.put, zs, z0, z1]
  refine s_do (by rfl) ?_
  refine wM (v := .bool true) rfl rfl ?_
  simp only [Act.put, zs, z0, z1]
  refine s_do (by rfl) ?_
  refine wp_pickT (v := .bool true) rfl rfl rfl ?_
  simp only [Act.put, zs, z0, z1]
  refine s_do (by rfl) ?_
  refine wM (v := .bool true) rfl rfl ?_
  simp only [Act.put, zs, z0, z1]
  refine s_do (by rfl) ?_
  refine wp_loadB rfl rfl (hPN16_21) ?_
  simp only [Act.put, zs, z0, z1]
  refine s_do (by rfl) ?_
  refine wM (v := .int .u64 (iv y)) rfl rfl ?_
  simp only [Act.put, zs, z0, z1]
  refine s_do (by rfl) ?_
  refine wp_call2 rfl rfl rfl (by go_simp) ?_
  refine ((cHQ) _).mono ?_
  rintro e wk22 ⟨rfl, hk22⟩
  refine ⟨_, rfl, ?_⟩
  have hPN1_22 := (hPN1_21).gr hk22
  have hPN5_22 := (hPN5_21).gr hk22
  have hPN6_22 := (hPN6_21).gr hk22
  have hPN11_22 := (hPN11_21).gr hk22
  have hPN12_22 := (hPN12_21).gr hk22
  have hPN16_22 := (hPN16_21).gr hk22
  have hPN17_22 := (hPN17_21).gr hk22
  have hF_22 := (hF_21).then hk22
  simp only [Act.put, zs, z0, z1]
  refine s_do (by rfl) ?_
  refine wp_pickT (v := .bool true) rfl rfl rfl ?_
  simp only [Act.put, zs, z0, z1]
  refine s_do (by rfl) ?_
  refine wp_notT rfl rfl ?_
  simp only [Act.put, zs, z0, z1]
  refine sF rfl ?_
  refine wp_pickT (v := .bool false) rfl rfl rfl ?_
  simp only [Act.put, zs, z0, z1]
  refine s_end ?_
  go_upto_region 10 with fail
  refine rG ?_
  refine sF rfl ?_
  refine wM (v := .bool false) rfl rfl ?_
  simp only [Act.put, zs, z0, z1]
  refine sF rfl ?_
  refine wM (v := .bool false) rfl rfl ?_
  simp only [Act.put, zs, z0, z1]
  refine s_do (by rfl) ?_
  refine wp_loadB rfl rfl (hPN11_22) ?_
  simp only [Act.put, zs, z0, z1]
  refine s_do (by rfl) ?_
  refine wp_call1 rfl rfl (by go_simp) ?_
  refine ((cNP) _).mono ?_
  rintro e wk23 ⟨rfl, hk23⟩
  refine ⟨_, rfl, ?_⟩
  have hPN1_23 := (hPN1_22).gr hk23
  have hPN5_23 := (hPN5_22).gr hk23
  have hPN6_23 := (hPN6_22).gr hk23
  have hPN11_23 := (hPN11_22).gr hk23
  have hPN12_23 := (hPN12_22).gr hk23
  have hPN16_23 := (hPN16_22).gr hk23
  have hPN17_23 := (hPN17_22).gr hk23
  have hF_23 := (hF_22).then hk23
  simp only [Act.put, zs, z0, z1]
  refine sF rfl ?_
  refine wp_pickF (v := .bool true) rfl rfl rfl ?_
  simp only [Act.put, zs, z0, z1]
  refine sF rfl ?_
  refine wM (v := .bool true) rfl rfl ?_
  simp only [Act.put, zs, z0, z1]
  refine s_do (by rfl) ?_
  refine wM (v := .bool true) rfl rfl ?_
  simp only [Act.put, zs, z0, z1]
  refine s_do (by rfl) ?_
  refine wM (v := .bool true) rfl rfl ?_
  simp only [Act.put, zs, z0, z1]
  refine s_skip (by rfl) ?_
  simp only [Act.put, zs, z0, z1]
  refine s_skip (by rfl) ?_
  simp only [Act.put, zs, z0, z1]
  refine s_do (by rfl) ?_
  refine wp_pickT (v := .bool true) rfl rfl rfl ?_
  simp only [Act.put, zs, z0, z1]
  refine sF rfl ?_
  refine wp_pickT (v := .bool true) rfl rfl rfl ?_
  simp only [Act.put, zs, z0, z1]
  refine sF rfl ?_
  refine wM (v := .bool true) rfl rfl ?_
  simp only [Act.put, zs, z0, z1]
  refine s_do (by rfl) ?_
  refine wp_call0 rfl (by go_simp) ?_
  refine ((k_works) _).mono ?_
  rintro e wk24 ⟨rfl, hk24⟩
  refine ⟨_, rfl, ?_⟩
  have hPN1_24 := (hPN1_23).gr hk24
  have hPN5_24 := (hPN5_23).gr hk24
  have hPN6_24 := (hPN6_23).gr hk24
  have hPN11_24 := (hPN11_23).gr hk24
  have hPN12_24 := (hPN12_23).gr hk24
  have hPN16_24 := (hPN16_23).gr hk24
  have hPN17_24 := (hPN17_23).gr hk24
  have hF_24 := (hF_23).then hk24
  simp only [Act.put, zs, z0, z1]
  refine sF rfl ?_
  refine wp_pickT (v := .bool true) rfl rfl rfl ?_
  simp only [Act.put, zs, z0, z1]
  refine sF rfl ?_
  refine wA (v := .bool true) rfl rfl ?_
  simp only [Act.put, zs, z0, z1]
  refine s_end ?_
  go_wp2
  go_ret
  exact ⟨rfl, (hF_24).gr0⟩
 ·exfalso
  obtain ⟨p, q, e, -⟩ := K y ((hasM_iff _ _).1 eh) true es
  rw [e] at e1; cases e1
 ·have cT := cT0; have cF := cF0; have cA := cA0; have cH := cH0
  rw [e1] at cT; rw [e2] at cF; rw [es] at cA; rw [eh] at cH
  have cNQ := nQ e2
  clear cT0 cF0 cA0 cH0 K hPy hQy nP nQ eP1 eP2 eQ1 eQ2 e1 e2 eh es
  simp only [Act.put, zs, z0, z1]
  refine sF rfl ?_
  refine wp_call1 rfl rfl (by go_simp) ?_
  refine ((cS) _).mono ?_
  rintro e wk3 ⟨rfl, hk3⟩
  refine ⟨_, rfl, ?_⟩
  have hPN1_3 := (hPN1_2).gr hk3
  have hF_3 := (hF_2).then hk3
  simp only [Act.put, zs, z0, z1]
  refine sF rfl ?_
  refine wM (v := .int .u64 (iv nn)) rfl rfl ?_
  simp only [Act.put, zs, z0, z1]
  refine sF rfl ?_
  refine wp_call1 rfl rfl (by go_simp) ?_
  refine ((cC) _).mono ?_
  rintro e wk4 ⟨rfl, hk4⟩
  refine ⟨_, rfl, ?_⟩
  have hPN1_4 := (hPN1_3).gr hk4
  have hF_4 := (hF_3).then hk4
  simp only [Act.put, zs, z0, z1]
  refine sF rfl ?_
  refine wp_allocB rfl ?_
  intro ws5 hn5 hg5
  obtain ⟨PN5, hb5⟩ : ∃ b, wk4.heap.size = b := ⟨_, rfl⟩
  rw [hb5] at hn5 ⊢
  have hge5 := Nat.le_trans (hF_4).size (Nat.le_of_eq hb5)
  have hnePN1_PN5 : PN1 ≠ PN5 := nl (hPN1_4).lt hb5
  have hPN1_5 := (hPN1_4).gr hg5
  have hF_5 := (hF_4).then hg5
  simp only [Act.put, zs, z0, z1]
  refine sF rfl ?_
  refine wp_allocB rfl ?_
  intro ws6 hn6 hg6
  obtain ⟨PN6, hb6⟩ : ∃ b, ws5.heap.size = b := ⟨_, rfl⟩
  rw [hb6] at hn6 ⊢
  have hge6 := Nat.le_trans (hF_5).size (Nat.le_of_eq hb6)
  have hnePN1_PN6 : PN1 ≠ PN6 := nl (hPN1_5).lt hb6
  have hnePN5_PN6 : PN5 ≠ PN6 := nl (hn5).lt hb6
  have hPN1_6 := (hPN1_5).gr hg6
  have hPN5_6 := (hn5).gr hg6
  have hF_6 := (hF_5).then hg6
  simp only [Act.put, zs, z0, z1]
  refine sF rfl ?_
  refine wp_storeB rfl rfl rfl (hPN5_6) ?_
  intro ws7 hs7 gx7
  have hPN1_7 := (hPN1_6).grx gx7 hnePN1_PN5
  have hPN6_7 := (hn6).grx gx7 (Ne.symm hnePN5_PN6)
  have hF_7 := (hF_6).thenx gx7 (.inr hge5)
  change AtA ws7 PN5 (bv A) 33 at hs7
  simp only [Act.put, zs, z0, z1]
  refine sF rfl ?_
  refine wp_storeB rfl rfl rfl (hPN6_7) ?_
  intro ws8 hs8 gx8
  have hPN1_8 := (hPN1_7).grx gx8 hnePN1_PN6
  have hPN5_8 := (hs7).grx gx8 hnePN5_PN6
  have hF_8 := (hF_7).thenx gx8 (.inr hge6)
  change AtA ws8 PN6 (bv C) 33 at hs8
  simp only [Act.put, zs, z0, z1]
  refine s_end ?_
  go_upto_region 2 with fail
  refine rG ?_
  refine sF rfl ?_
  refine wM (v := .int .u8 c) rfl rfl ?_
  simp only [Act.put, zs, z0, z1]
  refine sF rfl ?_
  refine wp_call1 rfl rfl (by go_simp) ?_
  refine ((cd) _).mono ?_
  rintro e wk9 ⟨rfl, hk9⟩
  refine ⟨_, rfl, ?_⟩
  have hPN1_9 := (hPN1_8).gr hk9
  have hPN5_9 := (hPN5_8).gr hk9
  have hPN6_9 := (hs8).gr hk9
  have hF_9 := (hF_8).then hk9
  simp only [Act.put, zs, z0, z1]
  refine sF rfl ?_
  refine wA (v := .int .u8 d) rfl rfl ?_
  simp only [Act.put, zs, z0, z1]
  refine s_end ?_
  go_upto_region 3 with fail
  refine rG ?_
  refine sF rfl ?_
  refine wM (v := .int .u8 d) rfl rfl ?_
  simp only [Act.put, zs, z0, z1]
  refine sF rfl ?_
  refine wM (v := .bool wd) rfl rfl ?_
  simp only [Act.put, zs, z0, z1]
  refine sF rfl ?_
  refine wp_loadB rfl rfl (hPN5_9) ?_
  simp only [Act.put, zs, z0, z1]
  refine sF rfl ?_
  refine wp_loadB rfl rfl (hPN6_9) ?_
  simp only [Act.put, zs, z0, z1]
  refine sF rfl ?_
  refine wp_call5 rfl rfl rfl rfl rfl rfl (by go_simp) ?_
  refine ((cT) _).mono ?_
  rintro e wk10 ⟨rfl, hk10⟩
  refine ⟨_, rfl, ?_⟩
  have hPN1_10 := (hPN1_9).gr hk10
  have hPN5_10 := (hPN5_9).gr hk10
  have hPN6_10 := (hPN6_9).gr hk10
  have hF_10 := (hF_9).then hk10
  simp only [Act.put, zs, z0, z1]
  refine sF rfl ?_
  refine wM (v := .tuple #[.agg (bv P1), .agg (bv P2), .bool true, .int .i64 0]) rfl rfl ?_
  simp only [Act.put, zs, z0, z1]
  refine sF rfl ?_
  refine wp_extract (v := .agg (bv P1)) rfl rfl rfl ?_
  simp only [Act.put, zs, z0, z1]
  refine sF rfl ?_
  refine wp_extract (v := .agg (bv P2)) rfl rfl rfl ?_
  simp only [Act.put, zs, z0, z1]
  refine sF rfl ?_
  refine wp_extract (v := .bool true) rfl rfl rfl ?_
  simp only [Act.put, zs, z0, z1]
  refine sF rfl ?_
  refine wp_extract (v := .int .i64 0) rfl rfl rfl ?_
  simp only [Act.put, zs, z0, z1]
  refine sF rfl ?_
  refine wp_allocB rfl ?_
  intro ws11 hn11 hg11
  obtain ⟨PN11, hb11⟩ : ∃ b, wk10.heap.size = b := ⟨_, rfl⟩
  rw [hb11] at hn11 ⊢
  have hge11 := Nat.le_trans (hF_10).size (Nat.le_of_eq hb11)
  have hnePN1_PN11 : PN1 ≠ PN11 := nl (hPN1_10).lt hb11
  have hnePN5_PN11 : PN5 ≠ PN11 := nl (hPN5_10).lt hb11
  have hnePN6_PN11 : PN6 ≠ PN11 := nl (hPN6_10).lt hb11
  have hPN1_11 := (hPN1_10).gr hg11
  have hPN5_11 := (hPN5_10).gr hg11
  have hPN6_11 := (hPN6_10).gr hg11
  have hF_11 := (hF_10).then hg11
  simp only [Act.put, zs, z0, z1]
  refine sF rfl ?_
  refine wp_allocB rfl ?_
  intro ws12 hn12 hg12
  obtain ⟨PN12, hb12⟩ : ∃ b, ws11.heap.size = b := ⟨_, rfl⟩
  rw [hb12] at hn12 ⊢
  have hge12 := Nat.le_trans (hF_11).size (Nat.le_of_eq hb12)
  have hnePN1_PN12 : PN1 ≠ PN12 := nl (hPN1_11).lt hb12
  have hnePN5_PN12 : PN5 ≠ PN12 := nl (hPN5_11).lt hb12
  have hnePN6_PN12 : PN6 ≠ PN12 := nl (hPN6_11).lt hb12
  have hnePN11_PN12 : PN11 ≠ PN12 := nl (hn11).lt hb12
  have hPN1_12 := (hPN1_11).gr hg12
  have hPN5_12 := (hPN5_11).gr hg12
  have hPN6_12 := (hPN6_11).gr hg12
  have hPN11_12 := (hn11).gr hg12
  have hF_12 := (hF_11).then hg12
  simp only [Act.put, zs, z0, z1]
  refine sF rfl ?_
  refine wp_storeB rfl rfl rfl (hPN11_12) ?_
  intro ws13 hs13 gx13
  have hPN1_13 := (hPN1_12).grx gx13 hnePN1_PN11
  have hPN5_13 := (hPN5_12).grx gx13 hnePN5_PN11
  have hPN6_13 := (hPN6_12).grx gx13 hnePN6_PN11
  have hPN12_13 := (hn12).grx gx13 (Ne.symm hnePN11_PN12)
  have hF_13 := (hF_12).thenx gx13 (.inr hge11)
  change AtA ws13 PN11 (bv P1) 33 at hs13
  simp only [Act.put, zs, z0, z1]
  refine sF rfl ?_
  refine wp_storeB rfl rfl rfl (hPN12_13) ?_
  intro ws14 hs14 gx14
  have hPN1_14 := (hPN1_13).grx gx14 hnePN1_PN12
  have hPN5_14 := (hPN5_13).grx gx14 hnePN5_PN12
  have hPN6_14 := (hPN6_13).grx gx14 hnePN6_PN12
  have hPN11_14 := (hs13).grx gx14 hnePN11_PN12
  have hF_14 := (hF_13).thenx gx14 (.inr hge12)
  change AtA ws14 PN12 (bv P2) 33 at hs14
  simp only [Act.put, zs, z0, z1]
  refine sF rfl ?_
  refine wA (v := .bool true) rfl rfl ?_
  simp only [Act.put, zs, z0, z1]
  refine sF rfl ?_
  refine wA (v := .int .i64 0) rfl rfl ?_
  simp only [Act.put, zs, z0, z1]
  refine s_end ?_
  go_upto_region 4 with fail
  refine rG ?_
  refine sF rfl ?_
  refine wM (v := .int .u8 d) rfl rfl ?_
  simp only [Act.put, zs, z0, z1]
  refine sF rfl ?_
  refine wM (v := .bool wd) rfl rfl ?_
  simp only [Act.put, zs, z0, z1]
  refine sF rfl ?_
  refine wp_loadB rfl rfl (hPN5_14) ?_
  simp only [Act.put, zs, z0, z1]
  refine sF rfl ?_
  refine wp_loadB rfl rfl (hPN6_14) ?_
  simp only [Act.put, zs, z0, z1]
  refine sF rfl ?_
  refine wp_call5 rfl rfl rfl rfl rfl rfl (by go_simp) ?_
  refine ((cF) _).mono ?_
  rintro e wk15 ⟨rfl, hk15⟩
  refine ⟨_, rfl, ?_⟩
  have hPN1_15 := (hPN1_14).gr hk15
  have hPN5_15 := (hPN5_14).gr hk15
  have hPN6_15 := (hPN6_14).gr hk15
  have hPN11_15 := (hPN11_14).gr hk15
  have hPN12_15 := (hs14).gr hk15
  have hF_15 := (hF_14).then hk15
  simp only [Act.put, zs, z0, z1]
  refine sF rfl ?_
  refine wM (v := .tuple #[.agg (bv Q1), .agg (bv Q2), .bool false, .int .i64 0]) rfl rfl ?_
  simp only [Act.put, zs, z0, z1]
  refine sF rfl ?_
  refine wp_extract (v := .agg (bv Q1)) rfl rfl rfl ?_
  simp only [Act.put, zs, z0, z1]
  refine sF rfl ?_
  refine wp_extract (v := .agg (bv Q2)) rfl rfl rfl ?_
  simp only [Act.put, zs, z0, z1]
  refine sF rfl ?_
  refine wp_extract (v := .bool false) rfl rfl rfl ?_
  simp only [Act.put, zs, z0, z1]
  refine sF rfl ?_
  refine wp_extract (v := .int .i64 0) rfl rfl rfl ?_
  simp only [Act.put, zs, z0, z1]
  refine sF rfl ?_
  refine wp_allocB rfl ?_
  intro ws16 hn16 hg16
  obtain ⟨PN16, hb16⟩ : ∃ b, wk15.heap.size = b := ⟨_, rfl⟩
  rw [hb16] at hn16 ⊢
  have hge16 := Nat.le_trans (hF_15).size (Nat.le_of_eq hb16)
  have hnePN1_PN16 : PN1 ≠ PN16 := nl (hPN1_15).lt hb16
  have hnePN5_PN16 : PN5 ≠ PN16 := nl (hPN5_15).lt hb16
  have hnePN6_PN16 : PN6 ≠ PN16 := nl (hPN6_15).lt hb16
  have hnePN11_PN16 : PN11 ≠ PN16 := nl (hPN11_15).lt hb16
  have hnePN12_PN16 : PN12 ≠ PN16 := nl (hPN12_15).lt hb16
  have hPN1_16 := (hPN1_15).gr hg16
  have hPN5_16 := (hPN5_15).gr hg16
  have hPN6_16 := (hPN6_15).gr hg16
  have hPN11_16 := (hPN11_15).gr hg16
  have hPN12_16 := (hPN12_15).gr hg16
  have hF_16 := (hF_15).then hg16
  simp only [Act.put, zs, z0, z1]
  refine sF rfl ?_
  refine wp_allocB rfl ?_
  intro ws17 hn17 hg17
  obtain ⟨PN17, hb17⟩ : ∃ b, ws16.heap.size = b := ⟨_, rfl⟩
  rw [hb17] at hn17 ⊢
  have hge17 := Nat.le_trans (hF_16).size (Nat.le_of_eq hb17)
  have hnePN1_PN17 : PN1 ≠ PN17 := nl (hPN1_16).lt hb17
  have hnePN5_PN17 : PN5 ≠ PN17 := nl (hPN5_16).lt hb17
  have hnePN6_PN17 : PN6 ≠ PN17 := nl (hPN6_16).lt hb17
  have hnePN11_PN17 : PN11 ≠ PN17 := nl (hPN11_16).lt hb17
  have hnePN12_PN17 : PN12 ≠ PN17 := nl (hPN12_16).lt hb17
  have hnePN16_PN17 : PN16 ≠ PN17 := nl (hn16).lt hb17
  have hPN1_17 := (hPN1_16).gr hg17
  have hPN5_17 := (hPN5_16).gr hg17
  have hPN6_17 := (hPN6_16).gr hg17
  have hPN11_17 := (hPN11_16).gr hg17
  have hPN12_17 := (hPN12_16).gr hg17
  have hPN16_17 := (hn16).gr hg17
  have hF_17 := (hF_16).then hg17
  simp only [Act.put, zs, z0, z1]
  refine sF rfl ?_
  refine wp_storeB rfl rfl rfl (hPN16_17) ?_
  intro ws18 hs18 gx18
  have hPN1_18 := (hPN1_17).grx gx18 hnePN1_PN16
  have hPN5_18 := (hPN5_17).grx gx18 hnePN5_PN16
  have hPN6_18 := (hPN6_17).grx gx18 hnePN6_PN16
  have hPN11_18 := (hPN11_17).grx gx18 hnePN11_PN16
  have hPN12_18 := (hPN12_17).grx gx18 hnePN12_PN16
  have hPN17_18 := (hn17).grx gx18 (Ne.symm hnePN16_PN17)
  have hF_18 := (hF_17).thenx gx18 (.inr hge16)
  change AtA ws18 PN16 (bv Q1) 33 at hs18
  simp only [Act.put, zs, z0, z1]
  refine sF rfl ?_
  refine wp_storeB rfl rfl rfl (hPN17_18) ?_
  intro ws19 hs19 gx19
  have hPN1_19 := (hPN1_18).grx gx19 hnePN1_PN17
  have hPN5_19 := (hPN5_18).grx gx19 hnePN5_PN17
  have hPN6_19 := (hPN6_18).grx gx19 hnePN6_PN17
  have hPN11_19 := (hPN11_18).grx gx19 hnePN11_PN17
  have hPN12_19 := (hPN12_18).grx gx19 hnePN12_PN17
  have hPN16_19 := (hs18).grx gx19 hnePN16_PN17
  have hF_19 := (hF_18).thenx gx19 (.inr hge17)
  change AtA ws19 PN17 (bv Q2) 33 at hs19
  simp only [Act.put, zs, z0, z1]
  refine sF rfl ?_
  refine wA (v := .bool false) rfl rfl ?_
  simp only [Act.put, zs, z0, z1]
  refine sF rfl ?_
  refine wA (v := .int .i64 0) rfl rfl ?_
  simp only [Act.put, zs, z0, z1]
  refine s_end ?_
  go_upto_region 5 with fail
  refine rG ?_
  refine sF rfl ?_
  refine wM (v := .int .u8 d) rfl rfl ?_
  simp only [Act.put, zs, z0, z1]
  refine sF rfl ?_
  refine wM (v := .bool wd) rfl rfl ?_
  simp only [Act.put, zs, z0, z1]
  refine sF rfl ?_
  refine wM (v := .int .u64 (iv y)) rfl rfl ?_
  simp only [Act.put, zs, z0, z1]
  refine sF rfl ?_
  refine wM (v := .int .u64 (iv nn)) rfl rfl ?_
  simp only [Act.put, zs, z0, z1]
  refine sF rfl ?_
  refine wp_call4 rfl rfl rfl rfl rfl (by go_simp) ?_
  refine ((cA) _).mono ?_
  rintro e wk20 ⟨rfl, hk20⟩
  refine ⟨_, rfl, ?_⟩
  have hPN1_20 := (hPN1_19).gr hk20
  have hPN5_20 := (hPN5_19).gr hk20
  have hPN6_20 := (hPN6_19).gr hk20
  have hPN11_20 := (hPN11_19).gr hk20
  have hPN12_20 := (hPN12_19).gr hk20
  have hPN16_20 := (hPN16_19).gr hk20
  have hPN17_20 := (hs19).gr hk20
  have hF_20 := (hF_19).then hk20
  simp only [Act.put, zs, z0, z1]
  refine sF rfl ?_
  refine wM (v := .tuple #[.bool false, .int .i64 0]) rfl rfl ?_
  simp only [Act.put, zs, z0, z1]
  refine sF rfl ?_
  refine wp_extract (v := .bool false) rfl rfl rfl ?_
  simp only [Act.put, zs, z0, z1]
  refine sF rfl ?_
  refine wp_extract (v := .int .i64 0) rfl rfl rfl ?_
  simp only [Act.put, zs, z0, z1]
  refine sF rfl ?_
  refine wA (v := .bool false) rfl rfl ?_
  simp only [Act.put, zs, z0, z1]
  refine sF rfl ?_
  refine wA (v := .int .i64 0) rfl rfl ?_
  simp only [Act.put, zs, z0, z1]
  refine s_end ?_
  go_upto_region 6 with fail
  refine rG ?_
  refine sF rfl ?_
  refine wM (v := .int .i64 0) rfl rfl ?_
  simp only [Act.put, zs, z0, z1]
  refine sF rfl ?_
  refine wp_neE rfl rfl ?_
  simp only [Act.put, zs, z0, z1]
  refine sF rfl ?_
  refine wM (v := .bool false) rfl rfl ?_
  simp only [Act.put, zs, z0, z1]
  refine s_do (by rfl) ?_
  refine wM (v := .int .i64 0) rfl rfl ?_
  simp only [Act.put, zs, z0, z1]
  refine s_do (by rfl) ?_
  refine wp_neE rfl rfl ?_
  simp only [Act.put, zs, z0, z1]
  refine sF rfl ?_
  refine wp_pickF (v := .bool false) rfl rfl rfl ?_
  simp only [Act.put, zs, z0, z1]
  refine sF rfl ?_
  refine wM (v := .bool false) rfl rfl ?_
  simp only [Act.put, zs, z0, z1]
  refine s_do (by rfl) ?_
  refine wM (v := .int .i64 0) rfl rfl ?_
  simp only [Act.put, zs, z0, z1]
  refine s_do (by rfl) ?_
  refine wp_neE rfl rfl ?_
  simp only [Act.put, zs, z0, z1]
  refine sF rfl ?_
  refine wp_pickF (v := .bool false) rfl rfl rfl ?_
  simp only [Act.put, zs, z0, z1]
  refine sF rfl ?_
  refine wM (v := .bool false) rfl rfl ?_
  simp only [Act.put, zs, z0, z1]
  refine s_do (by rfl) ?_
  refine wM (v := .bool true) rfl rfl ?_
  simp only [Act.put, zs, z0, z1]
  refine s_do (by rfl) ?_
  refine wp_notT rfl rfl ?_
  simp only [Act.put, zs, z0, z1]
  refine s_do (by rfl) ?_
  refine wM (v := .bool false) rfl rfl ?_
  simp only [Act.put, zs, z0, z1]
  refine s_skip (by rfl) ?_
  simp only [Act.put, zs, z0, z1]
  refine s_skip (by rfl) ?_
  simp only [Act.put, zs, z0, z1]
  refine s_do (by rfl) ?_
  refine wp_pickF (v := .bool false) rfl rfl rfl ?_
  simp only [Act.put, zs, z0, z1]
  refine sF rfl ?_
  refine wp_pickF (v := .bool false) rfl rfl rfl ?_
  simp only [Act.put, zs, z0, z1]
  refine s_end ?_
  go_upto_region 8 with fail
  refine rG ?_
  refine sF rfl ?_
  refine wp_loadB rfl rfl (hPN5_20) ?_
  simp only [Act.put, zs, z0, z1]
  refine sF rfl ?_
  refine wM (v := .int .u64 (iv y)) rfl rfl ?_
  simp only [Act.put, zs, z0, z1]
  refine sF rfl ?_
  refine wp_call2 rfl rfl rfl (by go_simp) ?_
  refine ((cH) _).mono ?_
  rintro e wk21 ⟨rfl, hk21⟩
  refine ⟨_, rfl, ?_⟩
  have hPN1_21 := (hPN1_20).gr hk21
  have hPN5_21 := (hPN5_20).gr hk21
  have hPN6_21 := (hPN6_20).gr hk21
  have hPN11_21 := (hPN11_20).gr hk21
  have hPN12_21 := (hPN12_20).gr hk21
  have hPN16_21 := (hPN16_20).gr hk21
  have hPN17_21 := (hPN17_20).gr hk21
  have hF_21 := (hF_20).then hk21
  simp only [Act.put, zs, z0, z1]
  refine sF rfl ?_
  refine wM (v := .bool false) rfl rfl ?_
  simp only [Act.put, zs, z0, z1]
  refine s_skip (by rfl) ?_
  simp only [Act.put, zs, z0, z1]
  refine s_skip (by rfl) ?_
  simp only [Act.put, zs, z0, z1]
  refine s_skip (by rfl) ?_
  simp only [Act.put, zs, z0, z1]
  refine s_skip (by rfl) ?_
  simp only [Act.put, zs, z0, z1]
  refine s_skip (by rfl) ?_
  simp only [Act.put, zs, z0, z1]
  refine s_skip (by rfl) ?_
  simp only [Act.put, zs, z0, z1]
  refine s_skip (by rfl) ?_
  simp only [Act.put, zs, z0, z1]
  refine s_skip (by rfl) ?_
  simp only [Act.put, zs, z0, z1]
  refine s_skip (by rfl) ?_
  simp only [Act.put, zs, z0, z1]
  refine s_skip (by rfl) ?_
  simp only [Act.put, zs, z0, z1]
  refine sF rfl ?_
  refine wp_pickF (v := .bool false) rfl rfl rfl ?_
  simp only [Act.put, zs, z0, z1]
  refine sF rfl ?_
  refine wM (v := .bool false) rfl rfl ?_
  simp only [Act.put, zs, z0, z1]
  refine s_skip (by rfl) ?_
  simp only [Act.put, zs, z0, z1]
  refine s_skip (by rfl) ?_
  simp only [Act.put, zs, z0, z1]
  refine s_skip (by rfl) ?_
  simp only [Act.put, zs, z0, z1]
  refine s_skip (by rfl) ?_
  simp only [Act.put, zs, z0, z1]
  refine s_skip (by rfl) ?_
  simp only [Act.put, zs, z0, z1]
  refine s_skip (by rfl) ?_
  simp only [Act.put, zs, z0, z1]
  refine s_skip (by rfl) ?_
  simp only [Act.put, zs, z0, z1]
  refine s_skip (by rfl) ?_
  simp only [Act.put, zs, z0, z1]
  refine s_skip (by rfl) ?_
  simp only [Act.put, zs, z0, z1]
  refine s_skip (by rfl) ?_
  simp only [Act.put, zs, z0, z1]
  refine s_skip (by rfl) ?_
  simp only [Act.put, zs, z0, z1]
  refine sF rfl ?_
  refine wp_pickF (v := .bool false) rfl rfl rfl ?_
  simp only [Act.put, zs, z0, z1]
  refine s_end ?_
  go_upto_region 10 with fail
  refine rG ?_
  refine sF rfl ?_
  refine wM (v := .bool true) rfl rfl ?_
  simp only [Act.put, zs, z0, z1]
  refine sF rfl ?_
  refine wM (v := .bool true) rfl rfl ?_
  simp only [Act.put, zs, z0, z1]
  refine s_skip (by rfl) ?_
  simp only [Act.put, zs, z0, z1]
  refine s_skip (by rfl) ?_
  simp only [Act.put, zs, z0, z1]
  refine sF rfl ?_
  refine wp_pickT (v := .bool true) rfl rfl rfl ?_
  simp only [Act.put, zs, z0, z1]
  refine sF rfl ?_
  refine wM (v := .bool true) rfl rfl ?_
  simp only [Act.put, zs, z0, z1]
  refine s_do (by rfl) ?_
  refine wM (v := .bool false) rfl rfl ?_
  simp only [Act.put, zs, z0, z1]
  refine s_do (by rfl) ?_
  refine wM (v := .bool false) rfl rfl ?_
  simp only [Act.put, zs, z0, z1]
  refine s_do (by rfl) ?_
  refine wp_loadB rfl rfl (hPN16_21) ?_
  simp only [Act.put, zs, z0, z1]
  refine s_do (by rfl) ?_
  refine wp_call1 rfl rfl (by go_simp) ?_
  refine ((cNQ) _).mono ?_
  rintro e wk22 ⟨rfl, hk22⟩
  refine ⟨_, rfl, ?_⟩
  have hPN1_22 := (hPN1_21).gr hk22
  have hPN5_22 := (hPN5_21).gr hk22
  have hPN6_22 := (hPN6_21).gr hk22
  have hPN11_22 := (hPN11_21).gr hk22
  have hPN12_22 := (hPN12_21).gr hk22
  have hPN16_22 := (hPN16_21).gr hk22
  have hPN17_22 := (hPN17_21).gr hk22
  have hF_22 := (hF_21).then hk22
  simp only [Act.put, zs, z0, z1]
  refine s_do (by rfl) ?_
  refine wp_pickF (v := .bool true) rfl rfl rfl ?_
  simp only [Act.put, zs, z0, z1]
  refine sF rfl ?_
  refine wp_pickT (v := .bool true) rfl rfl rfl ?_
  simp only [Act.put, zs, z0, z1]
  refine sF rfl ?_
  refine wM (v := .bool true) rfl rfl ?_
  simp only [Act.put, zs, z0, z1]
  refine s_do (by rfl) ?_
  refine wp_call0 rfl (by go_simp) ?_
  refine ((k_works) _).mono ?_
  rintro e wk23 ⟨rfl, hk23⟩
  refine ⟨_, rfl, ?_⟩
  have hPN1_23 := (hPN1_22).gr hk23
  have hPN5_23 := (hPN5_22).gr hk23
  have hPN6_23 := (hPN6_22).gr hk23
  have hPN11_23 := (hPN11_22).gr hk23
  have hPN12_23 := (hPN12_22).gr hk23
  have hPN16_23 := (hPN16_22).gr hk23
  have hPN17_23 := (hPN17_22).gr hk23
  have hF_23 := (hF_22).then hk23
  simp only [Act.put, zs, z0, z1]
  refine sF rfl ?_
  refine wp_pickT (v := .bool true) rfl rfl rfl ?_
  simp only [Act.put, zs, z0, z1]
  refine sF rfl ?_
  refine wA (v := .bool true) rfl rfl ?_
  simp only [Act.put, zs, z0, z1]
  refine s_end ?_
  go_wp2
  go_ret
  exact ⟨rfl, (hF_23).gr0⟩
 ·have cT := cT0; have cF := cF0; have cA := cA0; have cH := cH0
  rw [e1] at cT; rw [e2] at cF; rw [es] at cA; rw [eh] at cH
  have cNQ := nQ e2
  clear cT0 cF0 cA0 cH0 K hPy hQy nP nQ eP1 eP2 eQ1 eQ2 e1 e2 eh es
  simp only [Act.put, zs, z0, z1]
  refine sF rfl ?_
  refine wp_call1 rfl rfl (by go_simp) ?_
  refine ((cS) _).mono ?_
  rintro e wk3 ⟨rfl, hk3⟩
  refine ⟨_, rfl, ?_⟩
  have hPN1_3 := (hPN1_2).gr hk3
  have hF_3 := (hF_2).then hk3
  simp only [Act.put, zs, z0, z1]
  refine sF rfl ?_
  refine wM (v := .int .u64 (iv nn)) rfl rfl ?_
  simp only [Act.put, zs, z0, z1]
  refine sF rfl ?_
  refine wp_call1 rfl rfl (by go_simp) ?_
  refine ((cC) _).mono ?_
  rintro e wk4 ⟨rfl, hk4⟩
  refine ⟨_, rfl, ?_⟩
  have hPN1_4 := (hPN1_3).gr hk4
  have hF_4 := (hF_3).then hk4
  simp only [Act.put, zs, z0, z1]
  refine sF rfl ?_
  refine wp_allocB rfl ?_
  intro ws5 hn5 hg5
  obtain ⟨PN5, hb5⟩ : ∃ b, wk4.heap.size = b := ⟨_, rfl⟩
  rw [hb5] at hn5 ⊢
  have hge5 := Nat.le_trans (hF_4).size (Nat.le_of_eq hb5)
  have hnePN1_PN5 : PN1 ≠ PN5 := nl (hPN1_4).lt hb5
  have hPN1_5 := (hPN1_4).gr hg5
  have hF_5 := (hF_4).then hg5
  simp only [Act.put, zs, z0, z1]
  refine sF rfl ?_
  refine wp_allocB rfl ?_
  intro ws6 hn6 hg6
  obtain ⟨PN6, hb6⟩ : ∃ b, ws5.heap.size = b := ⟨_, rfl⟩
  rw [hb6] at hn6 ⊢
  have hge6 := Nat.le_trans (hF_5).size (Nat.le_of_eq hb6)
  have hnePN1_PN6 : PN1 ≠ PN6 := nl (hPN1_5).lt hb6
  have hnePN5_PN6 : PN5 ≠ PN6 := nl (hn5).lt hb6
  have hPN1_6 := (hPN1_5).gr hg6
  have hPN5_6 := (hn5).gr hg6
  have hF_6 := (hF_5).then hg6
  simp only [Act.put, zs, z0, z1]
  refine sF rfl ?_
  refine wp_storeB rfl rfl rfl (hPN5_6) ?_
  intro ws7 hs7 gx7
  have hPN1_7 := (hPN1_6).grx gx7 hnePN1_PN5
  have hPN6_7 := (hn6).grx gx7 (Ne.symm hnePN5_PN6)
  have hF_7 := (hF_6).thenx gx7 (.inr hge5)
  change AtA ws7 PN5 (bv A) 33 at hs7
  simp only [Act.put, zs, z0, z1]
  refine sF rfl ?_
  refine wp_storeB rfl rfl rfl (hPN6_7) ?_
  intro ws8 hs8 gx8
  have hPN1_8 := (hPN1_7).grx gx8 hnePN1_PN6
  have hPN5_8 := (hs7).grx gx8 hnePN5_PN6
  have hF_8 := (hF_7).thenx gx8 (.inr hge6)
  change AtA ws8 PN6 (bv C) 33 at hs8
  simp only [Act.put, zs, z0, z1]
  refine s_end ?_
  go_upto_region 2 with fail
  refine rG ?_
  refine sF rfl ?_
  refine wM (v := .int .u8 c) rfl rfl ?_
  simp only [Act.put, zs, z0, z1]
  refine sF rfl ?_
  refine wp_call1 rfl rfl (by go_simp) ?_
  refine ((cd) _).mono ?_
  rintro e wk9 ⟨rfl, hk9⟩
  refine ⟨_, rfl, ?_⟩
  have hPN1_9 := (hPN1_8).gr hk9
  have hPN5_9 := (hPN5_8).gr hk9
  have hPN6_9 := (hs8).gr hk9
  have hF_9 := (hF_8).then hk9
  simp only [Act.put, zs, z0, z1]
  refine sF rfl ?_
  refine wA (v := .int .u8 d) rfl rfl ?_
  simp only [Act.put, zs, z0, z1]
  refine s_end ?_
  go_upto_region 3 with fail
  refine rG ?_
  refine sF rfl ?_
  refine wM (v := .int .u8 d) rfl rfl ?_
  simp only [Act.put, zs, z0, z1]
  refine sF rfl ?_
  refine wM (v := .bool wd) rfl rfl ?_
  simp only [Act.put, zs, z0, z1]
  refine sF rfl ?_
  refine wp_loadB rfl rfl (hPN5_9) ?_
  simp only [Act.put, zs, z0, z1]
  refine sF rfl ?_
  refine wp_loadB rfl rfl (hPN6_9) ?_
  simp only [Act.put, zs, z0, z1]
  refine sF rfl ?_
  refine wp_call5 rfl rfl rfl rfl rfl rfl (by go_simp) ?_
  refine ((cT) _).mono ?_
  rintro e wk10 ⟨rfl, hk10⟩
  refine ⟨_, rfl, ?_⟩
  have hPN1_10 := (hPN1_9).gr hk10
  have hPN5_10 := (hPN5_9).gr hk10
  have hPN6_10 := (hPN6_9).gr hk10
  have hF_10 := (hF_9).then hk10
  simp only [Act.put, zs, z0, z1]
  refine sF rfl ?_
  refine wM (v := .tuple #[.agg (bv P1), .agg (bv P2), .bool true, .int .i64 0]) rfl rfl ?_
  simp only [Act.put, zs, z0, z1]
  refine sF rfl ?_
  refine wp_extract (v := .agg (bv P1)) rfl rfl rfl ?_
  simp only [Act.put, zs, z0, z1]
  refine sF rfl ?_
  refine wp_extract (v := .agg (bv P2)) rfl rfl rfl ?_
  simp only [Act.put, zs, z0, z1]
  refine sF rfl ?_
  refine wp_extract (v := .bool true) rfl rfl rfl ?_
  simp only [Act.put, zs, z0, z1]
  refine sF rfl ?_
  refine wp_extract (v := .int .i64 0) rfl rfl rfl ?_
  simp only [Act.put, zs, z0, z1]
  refine sF rfl ?_
  refine wp_allocB rfl ?_
  intro ws11 hn11 hg11
  obtain ⟨PN11, hb11⟩ : ∃ b, wk10.heap.size = b := ⟨_, rfl⟩
  rw [hb11] at hn11 ⊢
  have hge11 := Nat.le_trans (hF_10).size (Nat.le_of_eq hb11)
  have hnePN1_PN11 : PN1 ≠ PN11 := nl (hPN1_10).lt hb11
  have hnePN5_PN11 : PN5 ≠ PN11 := nl (hPN5_10).lt hb11
  have hnePN6_PN11 : PN6 ≠ PN11 := nl (hPN6_10).lt hb11
  have hPN1_11 := (hPN1_10).gr hg11
  have hPN5_11 := (hPN5_10).gr hg11
  have hPN6_11 := (hPN6_10).gr hg11
  have hF_11 := (hF_10).then hg11
  simp only [Act.put, zs, z0, z1]
  refine sF rfl ?_
  refine wp_allocB rfl ?_
  intro ws12 hn12 hg12
  obtain ⟨PN12, hb12⟩ : ∃ b, ws11.heap.size = b := ⟨_, rfl⟩
  rw [hb12] at hn12 ⊢
  have hge12 := Nat.le_trans (hF_11).size (Nat.le_of_eq hb12)
  have hnePN1_PN12 : PN1 ≠ PN12 := nl (hPN1_11).lt hb12
  have hnePN5_PN12 : PN5 ≠ PN12 := nl (hPN5_11).lt hb12
  have hnePN6_PN12 : PN6 ≠ PN12 := nl (hPN6_11).lt hb12
  have hnePN11_PN12 : PN11 ≠ PN12 := nl (hn11).lt hb12
  have hPN1_12 := (hPN1_11).gr hg12
  have hPN5_12 := (hPN5_11).gr hg12
  have hPN6_12 := (hPN6_11).gr hg12
  have hPN11_12 := (hn11).gr hg12
  have hF_12 := (hF_11).then hg12
  simp only [Act.put, zs, z0, z1]
  refine sF rfl ?_
  refine wp_storeB rfl rfl rfl (hPN11_12) ?_
  intro ws13 hs13 gx13
  have hPN1_13 := (hPN1_12).grx gx13 hnePN1_PN11
  have hPN5_13 := (hPN5_12).grx gx13 hnePN5_PN11
  have hPN6_13 := (hPN6_12).grx gx13 hnePN6_PN11
  have hPN12_13 := (hn12).grx gx13 (Ne.symm hnePN11_PN12)
  have hF_13 := (hF_12).thenx gx13 (.inr hge11)
  change AtA ws13 PN11 (bv P1) 33 at hs13
  simp only [Act.put, zs, z0, z1]
  refine sF rfl ?_
  refine wp_storeB rfl rfl rfl (hPN12_13) ?_
  intro ws14 hs14 gx14
  have hPN1_14 := (hPN1_13).grx gx14 hnePN1_PN12
  have hPN5_14 := (hPN5_13).grx gx14 hnePN5_PN12
  have hPN6_14 := (hPN6_13).grx gx14 hnePN6_PN12
  have hPN11_14 := (hs13).grx gx14 hnePN11_PN12
  have hF_14 := (hF_13).thenx gx14 (.inr hge12)
  change AtA ws14 PN12 (bv P2) 33 at hs14
  simp only [Act.put, zs, z0, z1]
  refine sF rfl ?_
  refine wA (v := .bool true) rfl rfl ?_
  simp only [Act.put, zs, z0, z1]
  refine sF rfl ?_
  refine wA (v := .int .i64 0) rfl rfl ?_
  simp only [Act.put, zs, z0, z1]
  refine s_end ?_
  go_upto_region 4 with fail
  refine rG ?_
  refine sF rfl ?_
  refine wM (v := .int .u8 d) rfl rfl ?_
  simp only [Act.put, zs, z0, z1]
  refine sF rfl ?_
  refine wM (v := .bool wd) rfl rfl ?_
  simp only [Act.put, zs, z0, z1]
  refine sF rfl ?_
  refine wp_loadB rfl rfl (hPN5_14) ?_
  simp only [Act.put, zs, z0, z1]
  refine sF rfl ?_
  refine wp_loadB rfl rfl (hPN6_14) ?_
  simp only [Act.put, zs, z0, z1]
  refine sF rfl ?_
  refine wp_call5 rfl rfl rfl rfl rfl rfl (by go_simp) ?_
  refine ((cF) _).mono ?_
  rintro e wk15 ⟨rfl, hk15⟩
  refine ⟨_, rfl, ?_⟩
  have hPN1_15 := (hPN1_14).gr hk15
  have hPN5_15 := (hPN5_14).gr hk15
  have hPN6_15 := (hPN6_14).gr hk15
  have hPN11_15 := (hPN11_14).gr hk15
  have hPN12_15 := (hs14).gr hk15
  have hF_15 := (hF_14).then hk15
  simp only [Act.put, zs, z0, z1]
  refine sF rfl ?_
  refine wM (v := .tuple #[.agg (bv Q1), .agg (bv Q2), .bool false, .int .i64 0]) rfl rfl ?_
  simp only [Act.put, zs, z0, z1]
  refine sF rfl ?_
  refine wp_extract (v := .agg (bv Q1)) rfl rfl rfl ?_
  simp only [Act.put, zs, z0, z1]
  refine sF rfl ?_
  refine wp_extract (v := .agg (bv Q2)) rfl rfl rfl ?_
  simp only [Act.put, zs, z0, z1]
  refine sF rfl ?_
  refine wp_extract (v := .bool false) rfl rfl rfl ?_
  simp only [Act.put, zs, z0, z1]
  refine sF rfl ?_
  refine wp_extract (v := .int .i64 0) rfl rfl rfl ?_
  simp only [Act.put, zs, z0, z1]
  refine sF rfl ?_
  refine wp_allocB rfl ?_
  intro ws16 hn16 hg16
  obtain ⟨PN16, hb16⟩ : ∃ b, wk15.heap.size = b := ⟨_, rfl⟩
  rw [hb16] at hn16 ⊢
  have hge16 := Nat.le_trans (hF_15).size (Nat.le_of_eq hb16)
  have hnePN1_PN16 : PN1 ≠ PN16 := nl (hPN1_15).lt hb16
  have hnePN5_PN16 : PN5 ≠ PN16 := nl (hPN5_15).lt hb16
  have hnePN6_PN16 : PN6 ≠ PN16 := nl (hPN6_15).lt hb16
  have hnePN11_PN16 : PN11 ≠ PN16 := nl (hPN11_15).lt hb16
  have hnePN12_PN16 : PN12 ≠ PN16 := nl (hPN12_15).lt hb16
  have hPN1_16 := (hPN1_15).gr hg16
  have hPN5_16 := (hPN5_15).gr hg16
  have hPN6_16 := (hPN6_15).gr hg16
  have hPN11_16 := (hPN11_15).gr hg16
  have hPN12_16 := (hPN12_15).gr hg16
  have hF_16 := (hF_15).then hg16
  simp only [Act.put, zs, z0, z1]
  refine sF rfl ?_
  refine wp_allocB rfl ?_
  intro ws17 hn17 hg17
  obtain ⟨PN17, hb17⟩ : ∃ b, ws16.heap.size = b := ⟨_, rfl⟩
  rw [hb17] at hn17 ⊢
  have hge17 := Nat.le_trans (hF_16).size (Nat.le_of_eq hb17)
  have hnePN1_PN17 : PN1 ≠ PN17 := nl (hPN1_16).lt hb17
  have hnePN5_PN17 : PN5 ≠ PN17 := nl (hPN5_16).lt hb17
  have hnePN6_PN17 : PN6 ≠ PN17 := nl (hPN6_16).lt hb17
  have hnePN11_PN17 : PN11 ≠ PN17 := nl (hPN11_16).lt hb17
  have hnePN12_PN17 : PN12 ≠ PN17 := nl (hPN12_16).lt hb17
  have hnePN16_PN17 : PN16 ≠ PN17 := nl (hn16).lt hb17
  have hPN1_17 := (hPN1_16).gr hg17
  have hPN5_17 := (hPN5_16).gr hg17
  have hPN6_17 := (hPN6_16).gr hg17
  have hPN11_17 := (hPN11_16).gr hg17
  have hPN12_17 := (hPN12_16).gr hg17
  have hPN16_17 := (hn16).gr hg17
  have hF_17 := (hF_16).then hg17
  simp only [Act.put, zs, z0, z1]
  refine sF rfl ?_
  refine wp_storeB rfl rfl rfl (hPN16_17) ?_
  intro ws18 hs18 gx18
  have hPN1_18 := (hPN1_17).grx gx18 hnePN1_PN16
  have hPN5_18 := (hPN5_17).grx gx18 hnePN5_PN16
  have hPN6_18 := (hPN6_17).grx gx18 hnePN6_PN16
  have hPN11_18 := (hPN11_17).grx gx18 hnePN11_PN16
  have hPN12_18 := (hPN12_17).grx gx18 hnePN12_PN16
  have hPN17_18 := (hn17).grx gx18 (Ne.symm hnePN16_PN17)
  have hF_18 := (hF_17).thenx gx18 (.inr hge16)
  change AtA ws18 PN16 (bv Q1) 33 at hs18
  simp only [Act.put, zs, z0, z1]
  refine sF rfl ?_
  refine wp_storeB rfl rfl rfl (hPN17_18) ?_
  intro ws19 hs19 gx19
  have hPN1_19 := (hPN1_18).grx gx19 hnePN1_PN17
  have hPN5_19 := (hPN5_18).grx gx19 hnePN5_PN17
  have hPN6_19 := (hPN6_18).grx gx19 hnePN6_PN17
  have hPN11_19 := (hPN11_18).grx gx19 hnePN11_PN17
  have hPN12_19 := (hPN12_18).grx gx19 hnePN12_PN17
  have hPN16_19 := (hs18).grx gx19 hnePN16_PN17
  have hF_19 := (hF_18).thenx gx19 (.inr hge17)
  change AtA ws19 PN17 (bv Q2) 33 at hs19
  simp only [Act.put, zs, z0, z1]
  refine sF rfl ?_
  refine wA (v := .bool false) rfl rfl ?_
  simp only [Act.put, zs, z0, z1]
  refine sF rfl ?_
  refine wA (v := .int .i64 0) rfl rfl ?_
  simp only [Act.put, zs, z0, z1]
  refine s_end ?_
  go_upto_region 5 with fail
  refine rG ?_
  refine sF rfl ?_
  refine wM (v := .int .u8 d) rfl rfl ?_
  simp only [Act.put, zs, z0, z1]
  refine sF rfl ?_
  refine wM (v := .bool wd) rfl rfl ?_
  simp only [Act.put, zs, z0, z1]
  refine sF rfl ?_
  refine wM (v := .int .u64 (iv y)) rfl rfl ?_
  simp only [Act.put, zs, z0, z1]
  refine sF rfl ?_
  refine wM (v := .int .u64 (iv nn)) rfl rfl ?_
  simp only [Act.put, zs, z0, z1]
  refine sF rfl ?_
  refine wp_call4 rfl rfl rfl rfl rfl (by go_simp) ?_
  refine ((cA) _).mono ?_
  rintro e wk20 ⟨rfl, hk20⟩
  refine ⟨_, rfl, ?_⟩
  have hPN1_20 := (hPN1_19).gr hk20
  have hPN5_20 := (hPN5_19).gr hk20
  have hPN6_20 := (hPN6_19).gr hk20
  have hPN11_20 := (hPN11_19).gr hk20
  have hPN12_20 := (hPN12_19).gr hk20
  have hPN16_20 := (hPN16_19).gr hk20
  have hPN17_20 := (hs19).gr hk20
  have hF_20 := (hF_19).then hk20
  simp only [Act.put, zs, z0, z1]
  refine sF rfl ?_
  refine wM (v := .tuple #[.bool true, .int .i64 0]) rfl rfl ?_
  simp only [Act.put, zs, z0, z1]
  refine sF rfl ?_
  refine wp_extract (v := .bool true) rfl rfl rfl ?_
  simp only [Act.put, zs, z0, z1]
  refine sF rfl ?_
  refine wp_extract (v := .int .i64 0) rfl rfl rfl ?_
  simp only [Act.put, zs, z0, z1]
  refine sF rfl ?_
  refine wA (v := .bool true) rfl rfl ?_
  simp only [Act.put, zs, z0, z1]
  refine sF rfl ?_
  refine wA (v := .int .i64 0) rfl rfl ?_
  simp only [Act.put, zs, z0, z1]
  refine s_end ?_
  go_upto_region 6 with fail
  refine rG ?_
  refine sF rfl ?_
  refine wM (v := .int .i64 0) rfl rfl ?_
  simp only [Act.put, zs, z0, z1]
  refine sF rfl ?_
  refine wp_neE rfl rfl ?_
  simp only [Act.put, zs, z0, z1]
  refine sF rfl ?_
  refine wM (v := .bool false) rfl rfl ?_
  simp only [Act.put, zs, z0, z1]
  refine s_do (by rfl) ?_
  refine wM (v := .int .i64 0) rfl rfl ?_
  simp only [Act.put, zs, z0, z1]
  refine s_do (by rfl) ?_
  refine wp_neE rfl rfl ?_
  simp only [Act.put, zs, z0, z1]
  refine sF rfl ?_
  refine wp_pickF (v := .bool false) rfl rfl rfl ?_
  simp only [Act.put, zs, z0, z1]
  refine sF rfl ?_
  refine wM (v := .bool false) rfl rfl ?_
  simp only [Act.put, zs, z0, z1]
  refine s_do (by rfl) ?_
  refine wM (v := .int .i64 0) rfl rfl ?_
  simp only [Act.put, zs, z0, z1]
  refine s_do (by rfl) ?_
  refine wp_neE rfl rfl ?_
  simp only [Act.put, zs, z0, z1]
  refine sF rfl ?_
  refine wp_pickF (v := .bool false) rfl rfl rfl ?_
  simp only [Act.put, zs, z0, z1]
  refine sF rfl ?_
  refine wM (v := .bool false) rfl rfl ?_
  simp only [Act.put, zs, z0, z1]
  refine s_do (by rfl) ?_
  refine wM (v := .bool true) rfl rfl ?_
  simp only [Act.put, zs, z0, z1]
  refine s_do (by rfl) ?_
  refine wp_notT rfl rfl ?_
  simp only [Act.put, zs, z0, z1]
  refine s_do (by rfl) ?_
  refine wM (v := .bool false) rfl rfl ?_
  simp only [Act.put, zs, z0, z1]
  refine s_skip (by rfl) ?_
  simp only [Act.put, zs, z0, z1]
  refine s_skip (by rfl) ?_
  simp only [Act.put, zs, z0, z1]
  refine s_do (by rfl) ?_
  refine wp_pickF (v := .bool false) rfl rfl rfl ?_
  simp only [Act.put, zs, z0, z1]
  refine sF rfl ?_
  refine wp_pickF (v := .bool false) rfl rfl rfl ?_
  simp only [Act.put, zs, z0, z1]
  refine s_end ?_
  go_upto_region 8 with fail
  refine rG ?_
  refine sF rfl ?_
  refine wp_loadB rfl rfl (hPN5_20) ?_
  simp only [Act.put, zs, z0, z1]
  refine sF rfl ?_
  refine wM (v := .int .u64 (iv y)) rfl rfl ?_
  simp only [Act.put, zs, z0, z1]
  refine sF rfl ?_
  refine wp_call2 rfl rfl rfl (by go_simp) ?_
  refine ((cH) _).mono ?_
  rintro e wk21 ⟨rfl, hk21⟩
  refine ⟨_, rfl, ?_⟩
  have hPN1_21 := (hPN1_20).gr hk21
  have hPN5_21 := (hPN5_20).gr hk21
  have hPN6_21 := (hPN6_20).gr hk21
  have hPN11_21 := (hPN11_20).gr hk21
  have hPN12_21 := (hPN12_20).gr hk21
  have hPN16_21 := (hPN16_20).gr hk21
  have hPN17_21 := (hPN17_20).gr hk21
  have hF_21 := (hF_20).then hk21
  simp only [Act.put, zs, z0, z1]
  refine sF rfl ?_
  refine wM (v := .bool false) rfl rfl ?_
  simp only [Act.put, zs, z0, z1]
  refine s_skip (by rfl) ?_
  simp only [Act.put, zs, z0, z1]
  refine s_skip (by rfl) ?_
  simp only [Act.put, zs, z0, z1]
  refine s_skip (by rfl) ?_
  simp only [Act.put, zs, z0, z1]
  refine s_skip (by rfl) ?_
  simp only [Act.put, zs, z0, z1]
  refine s_skip (by rfl) ?_
  simp only [Act.put, zs, z0, z1]
  refine s_skip (by rfl) ?_
  simp only [Act.put, zs, z0, z1]
  refine s_skip (by rfl) ?_
  simp only [Act.put, zs, z0, z1]
  refine s_skip (by rfl) ?_
  simp only [Act.put, zs, z0, z1]
  refine s_skip (by rfl) ?_
  simp only [Act.put, zs, z0, z1]
  refine s_skip (by rfl) ?_
  simp only [Act.put, zs, z0, z1]
  refine sF rfl ?_
  refine wp_pickF (v := .bool false) rfl rfl rfl ?_
  simp only [Act.put, zs, z0, z1]
  refine sF rfl ?_
  refine wM (v := .bool false) rfl rfl ?_
  simp only [Act.put, zs, z0, z1]
  refine s_skip (by rfl) ?_
  simp only [Act.put, zs, z0, z1]
  refine s_skip (by rfl) ?_
  simp only [Act.put, zs, z0, z1]
  refine s_skip (by rfl) ?_
  simp only [Act.put, zs, z0, z1]
  refine s_skip (by rfl) ?_
  simp only [Act.put, zs, z0, z1]
  refine s_skip (by rfl) ?_
  simp only [Act.put, zs, z0, z1]
  refine s_skip (by rfl) ?_
  simp only [Act.put, zs, z0, z1]
  refine s_skip (by rfl) ?_
  simp only [Act.put, zs, z0, z1]
  refine s_skip (by rfl) ?_
  simp only [Act.put, zs, z0, z1]
  refine s_skip (by rfl) ?_
  simp only [Act.put, zs, z0, z1]
  refine s_skip (by rfl) ?_
  simp only [Act.put, zs, z0, z1]
  refine s_skip (by rfl) ?_
  simp only [Act.put, zs, z0, z1]
  refine sF rfl ?_
  refine wp_pickF (v := .bool false) rfl rfl rfl ?_
  simp only [Act.put, zs, z0, z1]
  refine s_end ?_
  go_upto_region 10 with fail
  refine rG ?_
  refine sF rfl ?_
  refine wM (v := .bool true) rfl rfl ?_
  simp only [Act.put, zs, z0, z1]
  refine sF rfl ?_
  refine wM (v := .bool true) rfl rfl ?_
  simp only [Act.put, zs, z0, z1]
  refine s_skip (by rfl) ?_
  simp only [Act.put, zs, z0, z1]
  refine s_skip (by rfl) ?_
  simp only [Act.put, zs, z0, z1]
  refine sF rfl ?_
  refine wp_pickT (v := .bool true) rfl rfl rfl ?_
  simp only [Act.put, zs, z0, z1]
  refine sF rfl ?_
  refine wM (v := .bool true) rfl rfl ?_
  simp only [Act.put, zs, z0, z1]
  refine s_do (by rfl) ?_
  refine wM (v := .bool false) rfl rfl ?_
  simp only [Act.put, zs, z0, z1]
  refine s_do (by rfl) ?_
  refine wM (v := .bool false) rfl rfl ?_
  simp only [Act.put, zs, z0, z1]
  refine s_do (by rfl) ?_
  refine wp_loadB rfl rfl (hPN16_21) ?_
  simp only [Act.put, zs, z0, z1]
  refine s_do (by rfl) ?_
  refine wp_call1 rfl rfl (by go_simp) ?_
  refine ((cNQ) _).mono ?_
  rintro e wk22 ⟨rfl, hk22⟩
  refine ⟨_, rfl, ?_⟩
  have hPN1_22 := (hPN1_21).gr hk22
  have hPN5_22 := (hPN5_21).gr hk22
  have hPN6_22 := (hPN6_21).gr hk22
  have hPN11_22 := (hPN11_21).gr hk22
  have hPN12_22 := (hPN12_21).gr hk22
  have hPN16_22 := (hPN16_21).gr hk22
  have hPN17_22 := (hPN17_21).gr hk22
  have hF_22 := (hF_21).then hk22
  simp only [Act.put, zs, z0, z1]
  refine s_do (by rfl) ?_
  refine wp_pickF (v := .bool true) rfl rfl rfl ?_
  simp only [Act.put, zs, z0, z1]
  refine sF rfl ?_
  refine wp_pickT (v := .bool true) rfl rfl rfl ?_
  simp only [Act.put, zs, z0, z1]
  refine sF rfl ?_
  refine wM (v := .bool true) rfl rfl ?_
  simp only [Act.put, zs, z0, z1]
  refine s_do (by rfl) ?_
  refine wp_call0 rfl (by go_simp) ?_
  refine ((k_works) _).mono ?_
  rintro e wk23 ⟨rfl, hk23⟩
  refine ⟨_, rfl, ?_⟩
  have hPN1_23 := (hPN1_22).gr hk23
  have hPN5_23 := (hPN5_22).gr hk23
  have hPN6_23 := (hPN6_22).gr hk23
  have hPN11_23 := (hPN11_22).gr hk23
  have hPN12_23 := (hPN12_22).gr hk23
  have hPN16_23 := (hPN16_22).gr hk23
  have hPN17_23 := (hPN17_22).gr hk23
  have hF_23 := (hF_22).then hk23
  simp only [Act.put, zs, z0, z1]
  refine sF rfl ?_
  refine wp_pickT (v := .bool true) rfl rfl rfl ?_
  simp only [Act.put, zs, z0, z1]
  refine sF rfl ?_
  refine wA (v := .bool true) rfl rfl ?_
  simp only [Act.put, zs, z0, z1]
  refine s_end ?_
  go_wp2
  go_ret
  exact ⟨rfl, (hF_23).gr0⟩
 ·exfalso
  obtain ⟨p, q, e, -⟩ := K y ((hasM_iff _ _).1 eh) false es
  rw [e] at e2; cases e2
 ·have cT := cT0; have cF := cF0; have cA := cA0; have cH := cH0
  rw [e1] at cT; rw [e2] at cF; rw [es] at cA; rw [eh] at cH
  have cHP := hPy eh es
  have cNQ := nQ e2
  clear cT0 cF0 cA0 cH0 K hPy hQy nP nQ eP1 eP2 eQ1 eQ2 e1 e2 eh es
  simp only [Act.put, zs, z0, z1]
  refine sF rfl ?_
  refine wp_call1 rfl rfl (by go_simp) ?_
  refine ((cS) _).mono ?_
  rintro e wk3 ⟨rfl, hk3⟩
  refine ⟨_, rfl, ?_⟩
  have hPN1_3 := (hPN1_2).gr hk3
  have hF_3 := (hF_2).then hk3
  simp only [Act.put, zs, z0, z1]
  refine sF rfl ?_
  refine wM (v := .int .u64 (iv nn)) rfl rfl ?_
  simp only [Act.put, zs, z0, z1]
  refine sF rfl ?_
  refine wp_call1 rfl rfl (by go_simp) ?_
  refine ((cC) _).mono ?_
  rintro e wk4 ⟨rfl, hk4⟩
  refine ⟨_, rfl, ?_⟩
  have hPN1_4 := (hPN1_3).gr hk4
  have hF_4 := (hF_3).then hk4
  simp only [Act.put, zs, z0, z1]
  refine sF rfl ?_
  refine wp_allocB rfl ?_
  intro ws5 hn5 hg5
  obtain ⟨PN5, hb5⟩ : ∃ b, wk4.heap.size = b := ⟨_, rfl⟩
  rw [hb5] at hn5 ⊢
  have hge5 := Nat.le_trans (hF_4).size (Nat.le_of_eq hb5)
  have hnePN1_PN5 : PN1 ≠ PN5 := nl (hPN1_4).lt hb5
  have hPN1_5 := (hPN1_4).gr hg5
  have hF_5 := (hF_4).then hg5
  simp only [Act.put, zs, z0, z1]
  refine sF rfl ?_
  refine wp_allocB rfl ?_
  intro ws6 hn6 hg6
  obtain ⟨PN6, hb6⟩ : ∃ b, ws5.heap.size = b := ⟨_, rfl⟩
  rw [hb6] at hn6 ⊢
  have hge6 := Nat.le_trans (hF_5).size (Nat.le_of_eq hb6)
  have hnePN1_PN6 : PN1 ≠ PN6 := nl (hPN1_5).lt hb6
  have hnePN5_PN6 : PN5 ≠ PN6 := nl (hn5).lt hb6
  have hPN1_6 := (hPN1_5).gr hg6
  have hPN5_6 := (hn5).gr hg6
  have hF_6 := (hF_5).then hg6
  simp only [Act.put, zs, z0, z1]
  refine sF rfl ?_
  refine wp_storeB rfl rfl rfl (hPN5_6) ?_
  intro ws7 hs7 gx7
  have hPN1_7 := (hPN1_6).grx gx7 hnePN1_PN5
  have hPN6_7 := (hn6).grx gx7 (Ne.symm hnePN5_PN6)
  have hF_7 := (hF_6).thenx gx7 (.inr hge5)
  change AtA ws7 PN5 (bv A) 33 at hs7
  simp only [Act.put, zs, z0, z1]
  refine sF rfl ?_
  refine wp_storeB rfl rfl rfl (hPN6_7) ?_
  intro ws8 hs8 gx8
  have hPN1_8 := (hPN1_7).grx gx8 hnePN1_PN6
  have hPN5_8 := (hs7).grx gx8 hnePN5_PN6
  have hF_8 := (hF_7).thenx gx8 (.inr hge6)
  change AtA ws8 PN6 (bv C) 33 at hs8
  simp only [Act.put, zs, z0, z1]
  refine s_end ?_
  go_upto_region 2 with fail
  refine rG ?_
  refine sF rfl ?_
  refine wM (v := .int .u8 c) rfl rfl ?_
  simp only [Act.put, zs, z0, z1]
  refine sF rfl ?_
  refine wp_call1 rfl rfl (by go_simp) ?_
  refine ((cd) _).mono ?_
  rintro e wk9 ⟨rfl, hk9⟩
  refine ⟨_, rfl, ?_⟩
  have hPN1_9 := (hPN1_8).gr hk9
  have hPN5_9 := (hPN5_8).gr hk9
  have hPN6_9 := (hs8).gr hk9
  have hF_9 := (hF_8).then hk9
  simp only [Act.put, zs, z0, z1]
  refine sF rfl ?_
  refine wA (v := .int .u8 d) rfl rfl ?_
  simp only [Act.put, zs, z0, z1]
  refine s_end ?_
  go_upto_region 3 with fail
  refine rG ?_
  refine sF rfl ?_
  refine wM (v := .int .u8 d) rfl rfl ?_
  simp only [Act.put, zs, z0, z1]
  refine sF rfl ?_
  refine wM (v := .bool wd) rfl rfl ?_
  simp only [Act.put, zs, z0, z1]
  refine sF rfl ?_
  refine wp_loadB rfl rfl (hPN5_9) ?_
  simp only [Act.put, zs, z0, z1]
  refine sF rfl ?_
  refine wp_loadB rfl rfl (hPN6_9) ?_
  simp only [Act.put, zs, z0, z1]
  refine sF rfl ?_
  refine wp_call5 rfl rfl rfl rfl rfl rfl (by go_simp) ?_
  refine ((cT) _).mono ?_
  rintro e wk10 ⟨rfl, hk10⟩
  refine ⟨_, rfl, ?_⟩
  have hPN1_10 := (hPN1_9).gr hk10
  have hPN5_10 := (hPN5_9).gr hk10
  have hPN6_10 := (hPN6_9).gr hk10
  have hF_10 := (hF_9).then hk10
  simp only [Act.put, zs, z0, z1]
  refine sF rfl ?_
  refine wM (v := .tuple #[.agg (bv P1), .agg (bv P2), .bool true, .int .i64 0]) rfl rfl ?_
  simp only [Act.put, zs, z0, z1]
  refine sF rfl ?_
  refine wp_extract (v := .agg (bv P1)) rfl rfl rfl ?_
  simp only [Act.put, zs, z0, z1]
  refine sF rfl ?_
  refine wp_extract (v := .agg (bv P2)) rfl rfl rfl ?_
  simp only [Act.put, zs, z0, z1]
  refine sF rfl ?_
  refine wp_extract (v := .bool true) rfl rfl rfl ?_
  simp only [Act.put, zs, z0, z1]
  refine sF rfl ?_
  refine wp_extract (v := .int .i64 0) rfl rfl rfl ?_
  simp only [Act.put, zs, z0, z1]
  refine sF rfl ?_
  refine wp_allocB rfl ?_
  intro ws11 hn11 hg11
  obtain ⟨PN11, hb11⟩ : ∃ b, wk10.heap.size = b := ⟨_, rfl⟩
  rw [hb11] at hn11 ⊢
  have hge11 := Nat.le_trans (hF_10).size (Nat.le_of_eq hb11)
  have hnePN1_PN11 : PN1 ≠ PN11 := nl (hPN1_10).lt hb11
  have hnePN5_PN11 : PN5 ≠ PN11 := nl (hPN5_10).lt hb11
  have hnePN6_PN11 : PN6 ≠ PN11 := nl (hPN6_10).lt hb11
  have hPN1_11 := (hPN1_10).gr hg11
  have hPN5_11 := (hPN5_10).gr hg11
  have hPN6_11 := (hPN6_10).gr hg11
  have hF_11 := (hF_10).then hg11
  simp only [Act.put, zs, z0, z1]
  refine sF rfl ?_
  refine wp_allocB rfl ?_
  intro ws12 hn12 hg12
  obtain ⟨PN12, hb12⟩ : ∃ b, ws11.heap.size = b := ⟨_, rfl⟩
  rw [hb12] at hn12 ⊢
  have hge12 := Nat.le_trans (hF_11).size (Nat.le_of_eq hb12)
  have hnePN1_PN12 : PN1 ≠ PN12 := nl (hPN1_11).lt hb12
  have hnePN5_PN12 : PN5 ≠ PN12 := nl (hPN5_11).lt hb12
  have hnePN6_PN12 : PN6 ≠ PN12 := nl (hPN6_11).lt hb12
  have hnePN11_PN12 : PN11 ≠ PN12 := nl (hn11).lt hb12
  have hPN1_12 := (hPN1_11).gr hg12
  have hPN5_12 := (hPN5_11).gr hg12
  have hPN6_12 := (hPN6_11).gr hg12
  have hPN11_12 := (hn11).gr hg12
  have hF_12 := (hF_11).then hg12
  simp only [Act.put, zs, z0, z1]
  refine sF rfl ?_
  refine wp_storeB rfl rfl rfl (hPN11_12) ?_
  intro ws13 hs13 gx13
  have hPN1_13 := (hPN1_12).grx gx13 hnePN1_PN11
  have hPN5_13 := (hPN5_12).grx gx13 hnePN5_PN11
  have hPN6_13 := (hPN6_12).grx gx13 hnePN6_PN11
  have hPN12_13 := (hn12).grx gx13 (Ne.symm hnePN11_PN12)
  have hF_13 := (hF_12).thenx gx13 (.inr hge11)
  change AtA ws13 PN11 (bv P1) 33 at hs13
  simp only [Act.put, zs, z0, z1]
  refine sF rfl ?_
  refine wp_storeB rfl rfl rfl (hPN12_13) ?_
  intro ws14 hs14 gx14
  have hPN1_14 := (hPN1_13).grx gx14 hnePN1_PN12
  have hPN5_14 := (hPN5_13).grx gx14 hnePN5_PN12
  have hPN6_14 := (hPN6_13).grx gx14 hnePN6_PN12
  have hPN11_14 := (hs13).grx gx14 hnePN11_PN12
  have hF_14 := (hF_13).thenx gx14 (.inr hge12)
  change AtA ws14 PN12 (bv P2) 33 at hs14
  simp only [Act.put, zs, z0, z1]
  refine sF rfl ?_
  refine wA (v := .bool true) rfl rfl ?_
  simp only [Act.put, zs, z0, z1]
  refine sF rfl ?_
  refine wA (v := .int .i64 0) rfl rfl ?_
  simp only [Act.put, zs, z0, z1]
  refine s_end ?_
  go_upto_region 4 with fail
  refine rG ?_
  refine sF rfl ?_
  refine wM (v := .int .u8 d) rfl rfl ?_
  simp only [Act.put, zs, z0, z1]
  refine sF rfl ?_
  refine wM (v := .bool wd) rfl rfl ?_
  simp only [Act.put, zs, z0, z1]
  refine sF rfl ?_
  refine wp_loadB rfl rfl (hPN5_14) ?_
  simp only [Act.put, zs, z0, z1]
  refine sF rfl ?_
  refine wp_loadB rfl rfl (hPN6_14) ?_
  simp only [Act.put, zs, z0, z1]
  refine sF rfl ?_
  refine wp_call5 rfl rfl rfl rfl rfl rfl (by go_simp) ?_
  refine ((cF) _).mono ?_
  rintro e wk15 ⟨rfl, hk15⟩
  refine ⟨_, rfl, ?_⟩
  have hPN1_15 := (hPN1_14).gr hk15
  have hPN5_15 := (hPN5_14).gr hk15
  have hPN6_15 := (hPN6_14).gr hk15
  have hPN11_15 := (hPN11_14).gr hk15
  have hPN12_15 := (hs14).gr hk15
  have hF_15 := (hF_14).then hk15
  simp only [Act.put, zs, z0, z1]
  refine sF rfl ?_
  refine wM (v := .tuple #[.agg (bv Q1), .agg (bv Q2), .bool false, .int .i64 0]) rfl rfl ?_
  simp only [Act.put, zs, z0, z1]
  refine sF rfl ?_
  refine wp_extract (v := .agg (bv Q1)) rfl rfl rfl ?_
  simp only [Act.put, zs, z0, z1]
  refine sF rfl ?_
  refine wp_extract (v := .agg (bv Q2)) rfl rfl rfl ?_
  simp only [Act.put, zs, z0, z1]
  refine sF rfl ?_
  refine wp_extract (v := .bool false) rfl rfl rfl ?_
  simp only [Act.put, zs, z0, z1]
  refine sF rfl ?_
  refine wp_extract (v := .int .i64 0) rfl rfl rfl ?_
  simp only [Act.put, zs, z0, z1]
  refine sF rfl ?_
  refine wp_allocB rfl ?_
  intro ws16 hn16 hg16
  obtain ⟨PN16, hb16⟩ : ∃ b, wk15.heap.size = b := ⟨_, rfl⟩
  rw [hb16] at hn16 ⊢
  have hge16 := Nat.le_trans (hF_15).size (Nat.le_of_eq hb16)
  have hnePN1_PN16 : PN1 ≠ PN16 := nl (hPN1_15).lt hb16
  have hnePN5_PN16 : PN5 ≠ PN16 := nl (hPN5_15).lt hb16
  have hnePN6_PN16 : PN6 ≠ PN16 := nl (hPN6_15).lt hb16
  have hnePN11_PN16 : PN11 ≠ PN16 := nl (hPN11_15).lt hb16
  have hnePN12_PN16 : PN12 ≠ PN16 := nl (hPN12_15).lt hb16
  have hPN1_16 := (hPN1_15).gr hg16
  have hPN5_16 := (hPN5_15).gr hg16
  have hPN6_16 := (hPN6_15).gr hg16
  have hPN11_16 := (hPN11_15).gr hg16
  have hPN12_16 := (hPN12_15).gr hg16
  have hF_16 := (hF_15).then hg16
  simp only [Act.put, zs, z0, z1]
  refine sF rfl ?_
  refine wp_allocB rfl ?_
  intro ws17 hn17 hg17
  obtain ⟨PN17, hb17⟩ : ∃ b, ws16.heap.size = b := ⟨_, rfl⟩
  rw [hb17] at hn17 ⊢
  have hge17 := Nat.le_trans (hF_16).size (Nat.le_of_eq hb17)
  have hnePN1_PN17 : PN1 ≠ PN17 := nl (hPN1_16).lt hb17
  have hnePN5_PN17 : PN5 ≠ PN17 := nl (hPN5_16).lt hb17
  have hnePN6_PN17 : PN6 ≠ PN17 := nl (hPN6_16).lt hb17
  have hnePN11_PN17 : PN11 ≠ PN17 := nl (hPN11_16).lt hb17
  have hnePN12_PN17 : PN12 ≠ PN17 := nl (hPN12_16).lt hb17
  have hnePN16_PN17 : PN16 ≠ PN17 := nl (hn16).lt hb17
  have hPN1_17 := (hPN1_16).gr hg17
  have hPN5_17 := (hPN5_16).gr hg17
  have hPN6_17 := (hPN6_16).gr hg17
  have hPN11_17 := (hPN11_16).gr hg17
  have hPN12_17 := (hPN12_16).gr hg17
  have hPN16_17 := (hn16).gr hg17
  have hF_17 := (hF_16).then hg17
  simp only [Act.put, zs, z0, z1]
  refine sF rfl ?_
  refine wp_storeB rfl rfl rfl (hPN16_17) ?_
  intro ws18 hs18 gx18
  have hPN1_18 := (hPN1_17).grx gx18 hnePN1_PN16
  have hPN5_18 := (hPN5_17).grx gx18 hnePN5_PN16
  have hPN6_18 := (hPN6_17).grx gx18 hnePN6_PN16
  have hPN11_18 := (hPN11_17).grx gx18 hnePN11_PN16
  have hPN12_18 := (hPN12_17).grx gx18 hnePN12_PN16
  have hPN17_18 := (hn17).grx gx18 (Ne.symm hnePN16_PN17)
  have hF_18 := (hF_17).thenx gx18 (.inr hge16)
  change AtA ws18 PN16 (bv Q1) 33 at hs18
  simp only [Act.put, zs, z0, z1]
  refine sF rfl ?_
  refine wp_storeB rfl rfl rfl (hPN17_18) ?_
  intro ws19 hs19 gx19
  have hPN1_19 := (hPN1_18).grx gx19 hnePN1_PN17
  have hPN5_19 := (hPN5_18).grx gx19 hnePN5_PN17
  have hPN6_19 := (hPN6_18).grx gx19 hnePN6_PN17
  have hPN11_19 := (hPN11_18).grx gx19 hnePN11_PN17
  have hPN12_19 := (hPN12_18).grx gx19 hnePN12_PN17
  have hPN16_19 := (hs18).grx gx19 hnePN16_PN17
  have hF_19 := (hF_18).thenx gx19 (.inr hge17)
  change AtA ws19 PN17 (bv Q2) 33 at hs19
  simp only [Act.put, zs, z0, z1]
  refine sF rfl ?_
  refine wA (v := .bool false) rfl rfl ?_
  simp only [Act.put, zs, z0, z1]
  refine sF rfl ?_
  refine wA (v := .int .i64 0) rfl rfl ?_
  simp only [Act.put, zs, z0, z1]
  refine s_end ?_
  go_upto_region 5 with fail
  refine rG ?_
  refine sF rfl ?_
  refine wM (v := .int .u8 d) rfl rfl ?_
  simp only [Act.put, zs, z0, z1]
  refine sF rfl ?_
  refine wM (v := .bool wd) rfl rfl ?_
  simp only [Act.put, zs, z0, z1]
  refine sF rfl ?_
  refine wM (v := .int .u64 (iv y)) rfl rfl ?_
  simp only [Act.put, zs, z0, z1]
  refine sF rfl ?_
  refine wM (v := .int .u64 (iv nn)) rfl rfl ?_
  simp only [Act.put, zs, z0, z1]
  refine sF rfl ?_
  refine wp_call4 rfl rfl rfl rfl rfl (by go_simp) ?_
  refine ((cA) _).mono ?_
  rintro e wk20 ⟨rfl, hk20⟩
  refine ⟨_, rfl, ?_⟩
  have hPN1_20 := (hPN1_19).gr hk20
  have hPN5_20 := (hPN5_19).gr hk20
  have hPN6_20 := (hPN6_19).gr hk20
  have hPN11_20 := (hPN11_19).gr hk20
  have hPN12_20 := (hPN12_19).gr hk20
  have hPN16_20 := (hPN16_19).gr hk20
  have hPN17_20 := (hs19).gr hk20
  have hF_20 := (hF_19).then hk20
  simp only [Act.put, zs, z0, z1]
  refine sF rfl ?_
  refine wM (v := .tuple #[.bool true, .int .i64 0]) rfl rfl ?_
  simp only [Act.put, zs, z0, z1]
  refine sF rfl ?_
  refine wp_extract (v := .bool true) rfl rfl rfl ?_
  simp only [Act.put, zs, z0, z1]
  refine sF rfl ?_
  refine wp_extract (v := .int .i64 0) rfl rfl rfl ?_
  simp only [Act.put, zs, z0, z1]
  refine sF rfl ?_
  refine wA (v := .bool true) rfl rfl ?_
  simp only [Act.put, zs, z0, z1]
  refine sF rfl ?_
  refine wA (v := .int .i64 0) rfl rfl ?_
  simp only [Act.put, zs, z0, z1]
  refine s_end ?_
  go_upto_region 6 with fail
  refine rG ?_
  refine sF rfl ?_
  refine wM (v := .int .i64 0) rfl rfl ?_
  simp only [Act.put, zs, z0, z1]
  refine sF rfl ?_
  refine wp_neE rfl rfl ?_
  simp only [Act.put, zs, z0, z1]
  refine sF rfl ?_
  refine wM (v := .bool false) rfl rfl ?_
  simp only [Act.put, zs, z0, z1]
  refine s_do (by rfl) ?_
  refine wM (v := .int .i64 0) rfl rfl ?_
  simp only [Act.put, zs, z0, z1]
  refine s_do (by rfl) ?_
  refine wp_neE rfl rfl ?_
  simp only [Act.put, zs, z0, z1]
  refine sF rfl ?_
  refine wp_pickF (v := .bool false) rfl rfl rfl ?_
  simp only [Act.put, zs, z0, z1]
  refine sF rfl ?_
  refine wM (v := .bool false) rfl rfl ?_
  simp only [Act.put, zs, z0, z1]
  refine s_do (by rfl) ?_
  refine wM (v := .int .i64 0) rfl rfl ?_
  simp only [Act.put, zs, z0, z1]
  refine s_do (by rfl) ?_
  refine wp_neE rfl rfl ?_
  simp only [Act.put, zs, z0, z1]
  refine sF rfl ?_
  refine wp_pickF (v := .bool false) rfl rfl rfl ?_
  simp only [Act.put, zs, z0, z1]
  refine sF rfl ?_
  refine wM (v := .bool false) rfl rfl ?_
  simp only [Act.put, zs, z0, z1]
  refine s_do (by rfl) ?_
  refine wM (v := .bool true) rfl rfl ?_
  simp only [Act.put, zs, z0, z1]
  refine s_do (by rfl) ?_
  refine wp_notT rfl rfl ?_
  simp only [Act.put, zs, z0, z1]
  refine s_do (by rfl) ?_
  refine wM (v := .bool false) rfl rfl ?_
  simp only [Act.put, zs, z0, z1]
  refine s_skip (by rfl) ?_
  simp only [Act.put, zs, z0, z1]
  refine s_skip (by rfl) ?_
  simp only [Act.put, zs, z0, z1]
  refine s_do (by rfl) ?_
  refine wp_pickF (v := .bool false) rfl rfl rfl ?_
  simp only [Act.put, zs, z0, z1]
  refine sF rfl ?_
  refine wp_pickF (v := .bool false) rfl rfl rfl ?_
  simp only [Act.put, zs, z0, z1]
  refine s_end ?_
  go_upto_region 8 with fail
  refine rG ?_
  refine sF rfl ?_
  refine wp_loadB rfl rfl (hPN5_20) ?_
  simp only [Act.put, zs, z0, z1]
  refine sF rfl ?_
  refine wM (v := .int .u64 (iv y)) rfl rfl ?_
  simp only [Act.put, zs, z0, z1]
  refine sF rfl ?_
  refine wp_call2 rfl rfl rfl (by go_simp) ?_
  refine ((cH) _).mono ?_
  rintro e wk21 ⟨rfl, hk21⟩
  refine ⟨_, rfl, ?_⟩
  have hPN1_21 := (hPN1_20).gr hk21
  have hPN5_21 := (hPN5_20).gr hk21
  have hPN6_21 := (hPN6_20).gr hk21
  have hPN11_21 := (hPN11_20).gr hk21
  have hPN12_21 := (hPN12_20).gr hk21
  have hPN16_21 := (hPN16_20).gr hk21
  have hPN17_21 := (hPN17_20).gr hk21
  have hF_21 := (hF_20).then hk21
  simp only [Act.put, zs, z0, z1]
  refine sF rfl ?_
  refine wM (v := .bool true) rfl rfl ?_
  simp only [Act.put, zs, z0, z1]
  refine s_do (by rfl) ?_
  refine wM (v := .bool true) rfl rfl ?_
  simp only [Act.put, zs, z0, z1]
  refine s_do (by rfl) ?_
  refine wM (v := .bool true) rfl rfl ?_
  simp only [Act.put, zs, z0, z1]
  refine s_do (by rfl) ?_
  refine wM (v := .bool true) rfl rfl ?_
  simp only [Act.put, zs, z0, z1]
  refine s_do (by rfl) ?_
  refine wp_pickT (v := .bool true) rfl rfl rfl ?_
  simp only [Act.put, zs, z0, z1]
  refine s_do (by rfl) ?_
  refine wM (v := .bool true) rfl rfl ?_
  simp only [Act.put, zs, z0, z1]
  refine s_do (by rfl) ?_
  refine wp_loadB rfl rfl (hPN11_21) ?_
  simp only [Act.put, zs, z0, z1]
  refine s_do (by rfl) ?_
  refine wM (v := .int .u64 (iv y)) rfl rfl ?_
  simp only [Act.put, zs, z0, z1]
  refine s_do (by rfl) ?_
  refine wp_call2 rfl rfl rfl (by go_simp) ?_
  refine ((cHP) _).mono ?_
  rintro e wk22 ⟨rfl, hk22⟩
  refine ⟨_, rfl, ?_⟩
  have hPN1_22 := (hPN1_21).gr hk22
  have hPN5_22 := (hPN5_21).gr hk22
  have hPN6_22 := (hPN6_21).gr hk22
  have hPN11_22 := (hPN11_21).gr hk22
  have hPN12_22 := (hPN12_21).gr hk22
  have hPN16_22 := (hPN16_21).gr hk22
  have hPN17_22 := (hPN17_21).gr hk22
  have hF_22 := (hF_21).then hk22
  simp only [Act.put, zs, z0, z1]
  refine s_do (by rfl) ?_
  refine wp_pickT (v := .bool true) rfl rfl rfl ?_
  simp only [Act.put, zs, z0, z1]
  refine s_do (by rfl) ?_
  refine wp_notT rfl rfl ?_
  simp only [Act.put, zs, z0, z1]
  refine sF rfl ?_
  refine wp_pickT (v := .bool false) rfl rfl rfl ?_
  simp only [Act.put, zs, z0, z1]
  refine sF rfl ?_
  refine wM (v := .bool false) rfl rfl ?_
  simp only [Act.put, zs, z0, z1]
  refine s_skip (by rfl) ?_
  simp only [Act.put, zs, z0, z1]
  refine s_skip (by rfl) ?_
  simp only [Act.put, zs, z0, z1]
  refine s_skip (by rfl) ?_
  simp only [Act.put, zs, z0, z1]
  refine s_skip (by rfl) ?_
  simp only [Act.put, zs, z0, z1]
  refine s_skip (by rfl) ?_
  simp only [Act.put, zs, z0, z1]
  refine s_skip (by rfl) ?_
  simp only [Act.put, zs, z0, z1]
  refine s_skip (by rfl) ?_
  simp only [Act.put, zs, z0, z1]
  refine s_skip (by rfl) ?_
  simp only [Act.put, zs, z0, z1]
  refine s_skip (by rfl) ?_
  simp only [Act.put, zs, z0, z1]
  refine s_skip (by rfl) ?_
  simp only [Act.put, zs, z0, z1]
  refine s_skip (by rfl) ?_
  simp only [Act.put, zs, z0, z1]
  refine sF rfl ?_
  refine wp_pickF (v := .bool false) rfl rfl rfl ?_
  simp only [Act.put, zs, z0, z1]
  refine s_end ?_
  go_upto_region 10 with fail
  refine rG ?_
  refine sF rfl ?_
  refine wM (v := .bool true) rfl rfl ?_
  simp only [Act.put, zs, z0, z1]
  refine sF rfl ?_
  refine wM (v := .bool true) rfl rfl ?_
  simp only [Act.put, zs, z0, z1]
  refine s_skip (by rfl) ?_
  simp only [Act.put, zs, z0, z1]
  refine s_skip (by rfl) ?_
  simp only [Act.put, zs, z0, z1]
  refine sF rfl ?_
  refine wp_pickT (v := .bool true) rfl rfl rfl ?_
  simp only [Act.put, zs, z0, z1]
  refine sF rfl ?_
  refine wM (v := .bool true) rfl rfl ?_
  simp only [Act.put, zs, z0, z1]
  refine s_do (by rfl) ?_
  refine wM (v := .bool false) rfl rfl ?_
  simp only [Act.put, zs, z0, z1]
  refine s_do (by rfl) ?_
  refine wM (v := .bool false) rfl rfl ?_
  simp only [Act.put, zs, z0, z1]
  refine s_do (by rfl) ?_
  refine wp_loadB rfl rfl (hPN16_22) ?_
  simp only [Act.put, zs, z0, z1]
  refine s_do (by rfl) ?_
  refine wp_call1 rfl rfl (by go_simp) ?_
  refine ((cNQ) _).mono ?_
  rintro e wk23 ⟨rfl, hk23⟩
  refine ⟨_, rfl, ?_⟩
  have hPN1_23 := (hPN1_22).gr hk23
  have hPN5_23 := (hPN5_22).gr hk23
  have hPN6_23 := (hPN6_22).gr hk23
  have hPN11_23 := (hPN11_22).gr hk23
  have hPN12_23 := (hPN12_22).gr hk23
  have hPN16_23 := (hPN16_22).gr hk23
  have hPN17_23 := (hPN17_22).gr hk23
  have hF_23 := (hF_22).then hk23
  simp only [Act.put, zs, z0, z1]
  refine s_do (by rfl) ?_
  refine wp_pickF (v := .bool true) rfl rfl rfl ?_
  simp only [Act.put, zs, z0, z1]
  refine sF rfl ?_
  refine wp_pickT (v := .bool true) rfl rfl rfl ?_
  simp only [Act.put, zs, z0, z1]
  refine sF rfl ?_
  refine wM (v := .bool true) rfl rfl ?_
  simp only [Act.put, zs, z0, z1]
  refine s_do (by rfl) ?_
  refine wp_call0 rfl (by go_simp) ?_
  refine ((k_works) _).mono ?_
  rintro e wk24 ⟨rfl, hk24⟩
  refine ⟨_, rfl, ?_⟩
  have hPN1_24 := (hPN1_23).gr hk24
  have hPN5_24 := (hPN5_23).gr hk24
  have hPN6_24 := (hPN6_23).gr hk24
  have hPN11_24 := (hPN11_23).gr hk24
  have hPN12_24 := (hPN12_23).gr hk24
  have hPN16_24 := (hPN16_23).gr hk24
  have hPN17_24 := (hPN17_23).gr hk24
  have hF_24 := (hF_23).then hk24
  simp only [Act.put, zs, z0, z1]
  refine sF rfl ?_
  refine wp_pickT (v := .bool true) rfl rfl rfl ?_
  simp only [Act.put, zs, z0, z1]
  refine sF rfl ?_
  refine wA (v := .bool true) rfl rfl ?_
  simp only [Act.put, zs, z0, z1]
  refine s_end ?_
  go_wp2
  go_ret
  exact ⟨rfl, (hF_24).gr0⟩
 ·have cT := cT0; have cF := cF0; have cA := cA0; have cH := cH0
  rw [e1] at cT; rw [e2] at cF; rw [es] at cA; rw [eh] at cH
  clear cT0 cF0 cA0 cH0 K hPy hQy nP nQ eP1 eP2 eQ1 eQ2 e1 e2 eh es
  simp only [Act.put, zs, z0, z1]
  refine sF rfl ?_
  refine wp_call1 rfl rfl (by go_simp) ?_
  refine ((cS) _).mono ?_
  rintro e wk3 ⟨rfl, hk3⟩
  refine ⟨_, rfl, ?_⟩
  have hPN1_3 := (hPN1_2).gr hk3
  have hF_3 := (hF_2).then hk3
  simp only [Act.put, zs, z0, z1]
  refine sF rfl ?_
  refine wM (v := .int .u64 (iv nn)) rfl rfl ?_
  simp only [Act.put, zs, z0, z1]
  refine sF rfl ?_
  refine wp_call1 rfl rfl (by go_simp) ?_
  refine ((cC) _).mono ?_
  rintro e wk4 ⟨rfl, hk4⟩
  refine ⟨_, rfl, ?_⟩
  have hPN1_4 := (hPN1_3).gr hk4
  have hF_4 := (hF_3).then hk4
  simp only [Act.put, zs, z0, z1]
  refine sF rfl ?_
  refine wp_allocB rfl ?_
  intro ws5 hn5 hg5
  obtain ⟨PN5, hb5⟩ : ∃ b, wk4.heap.size = b := ⟨_, rfl⟩
  rw [hb5] at hn5 ⊢
  have hge5 := Nat.le_trans (hF_4).size (Nat.le_of_eq hb5)
  have hnePN1_PN5 : PN1 ≠ PN5 := nl (hPN1_4).lt hb5
  have hPN1_5 := (hPN1_4).gr hg5
  have hF_5 := (hF_4).then hg5
  simp only [Act.put, zs, z0, z1]
  refine sF rfl ?_
  refine wp_allocB rfl ?_
  intro ws6 hn6 hg6
  obtain ⟨PN6, hb6⟩ : ∃ b, ws5.heap.size = b := ⟨_, rfl⟩
  rw [hb6] at hn6 ⊢
  have hge6 := Nat.le_trans (hF_5).size (Nat.le_of_eq hb6)
  have hnePN1_PN6 : PN1 ≠ PN6 := nl (hPN1_5).lt hb6
  have hnePN5_PN6 : PN5 ≠ PN6 := nl (hn5).lt hb6
  have hPN1_6 := (hPN1_5).gr hg6
  have hPN5_6 := (hn5).gr hg6
  have hF_6 := (hF_5).then hg6
  simp only [Act.put, zs, z0, z1]
  refine sF rfl ?_
  refine wp_storeB rfl rfl rfl (hPN5_6) ?_
  intro ws7 hs7 gx7
  have hPN1_7 := (hPN1_6).grx gx7 hnePN1_PN5
  have hPN6_7 := (hn6).grx gx7 (Ne.symm hnePN5_PN6)
  have hF_7 := (hF_6).thenx gx7 (.inr hge5)
  change AtA ws7 PN5 (bv A) 33 at hs7
  simp only [Act.put, zs, z0, z1]
  refine sF rfl ?_
  refine wp_storeB rfl rfl rfl (hPN6_7) ?_
  intro ws8 hs8 gx8
  have hPN1_8 := (hPN1_7).grx gx8 hnePN1_PN6
  have hPN5_8 := (hs7).grx gx8 hnePN5_PN6
  have hF_8 := (hF_7).thenx gx8 (.inr hge6)
  change AtA ws8 PN6 (bv C) 33 at hs8
  simp only [Act.put, zs, z0, z1]
  refine s_end ?_
  go_upto_region 2 with fail
  refine rG ?_
  refine sF rfl ?_
  refine wM (v := .int .u8 c) rfl rfl ?_
  simp only [Act.put, zs, z0, z1]
  refine sF rfl ?_
  refine wp_call1 rfl rfl (by go_simp) ?_
  refine ((cd) _).mono ?_
  rintro e wk9 ⟨rfl, hk9⟩
  refine ⟨_, rfl, ?_⟩
  have hPN1_9 := (hPN1_8).gr hk9
  have hPN5_9 := (hPN5_8).gr hk9
  have hPN6_9 := (hs8).gr hk9
  have hF_9 := (hF_8).then hk9
  simp only [Act.put, zs, z0, z1]
  refine sF rfl ?_
  refine wA (v := .int .u8 d) rfl rfl ?_
  simp only [Act.put, zs, z0, z1]
  refine s_end ?_
  go_upto_region 3 with fail
  refine rG ?_
  refine sF rfl ?_
  refine wM (v := .int .u8 d) rfl rfl ?_
  simp only [Act.put, zs, z0, z1]
  refine sF rfl ?_
  refine wM (v := .bool wd) rfl rfl ?_
  simp only [Act.put, zs, z0, z1]
  refine sF rfl ?_
  refine wp_loadB rfl rfl (hPN5_9) ?_
  simp only [Act.put, zs, z0, z1]
  refine sF rfl ?_
  refine wp_loadB rfl rfl (hPN6_9) ?_
  simp only [Act.put, zs, z0, z1]
  refine sF rfl ?_
  refine wp_call5 rfl rfl rfl rfl rfl rfl (by go_simp) ?_
  refine ((cT) _).mono ?_
  rintro e wk10 ⟨rfl, hk10⟩
  refine ⟨_, rfl, ?_⟩
  have hPN1_10 := (hPN1_9).gr hk10
  have hPN5_10 := (hPN5_9).gr hk10
  have hPN6_10 := (hPN6_9).gr hk10
  have hF_10 := (hF_9).then hk10
  simp only [Act.put, zs, z0, z1]
  refine sF rfl ?_
  refine wM (v := .tuple #[.agg (bv P1), .agg (bv P2), .bool true, .int .i64 0]) rfl rfl ?_
  simp only [Act.put, zs, z0, z1]
  refine sF rfl ?_
  refine wp_extract (v := .agg (bv P1)) rfl rfl rfl ?_
  simp only [Act.put, zs, z0, z1]
  refine sF rfl ?_
  refine wp_extract (v := .agg (bv P2)) rfl rfl rfl ?_
  simp only [Act.put, zs, z0, z1]
  refine sF rfl ?_
  refine wp_extract (v := .bool true) rfl rfl rfl ?_
  simp only [Act.put, zs, z0, z1]
  refine sF rfl ?_
  refine wp_extract (v := .int .i64 0) rfl rfl rfl ?_
  simp only [Act.put, zs, z0, z1]
  refine sF rfl ?_
  refine wp_allocB rfl ?_
  intro ws11 hn11 hg11
  obtain ⟨PN11, hb11⟩ : ∃ b, wk10.heap.size = b := ⟨_, rfl⟩
  rw [hb11] at hn11 ⊢
  have hge11 := Nat.le_trans (hF_10).size (Nat.le_of_eq hb11)
  have hnePN1_PN11 : PN1 ≠ PN11 := nl (hPN1_10).lt hb11
  have hnePN5_PN11 : PN5 ≠ PN11 := nl (hPN5_10).lt hb11
  have hnePN6_PN11 : PN6 ≠ PN11 := nl (hPN6_10).lt hb11
  have hPN1_11 := (hPN1_10).gr hg11
  have hPN5_11 := (hPN5_10).gr hg11
  have hPN6_11 := (hPN6_10).gr hg11
  have hF_11 := (hF_10).then hg11
  simp only [Act.put, zs, z0, z1]
  refine sF rfl ?_
  refine wp_allocB rfl ?_
  intro ws12 hn12 hg12
  obtain ⟨PN12, hb12⟩ : ∃ b, ws11.heap.size = b := ⟨_, rfl⟩
  rw [hb12] at hn12 ⊢
  have hge12 := Nat.le_trans (hF_11).size (Nat.le_of_eq hb12)
  have hnePN1_PN12 : PN1 ≠ PN12 := nl (hPN1_11).lt hb12
  have hnePN5_PN12 : PN5 ≠ PN12 := nl (hPN5_11).lt hb12
  have hnePN6_PN12 : PN6 ≠ PN12 := nl (hPN6_11).lt hb12
  have hnePN11_PN12 : PN11 ≠ PN12 := nl (hn11).lt hb12
  have hPN1_12 := (hPN1_11).gr hg12
  have hPN5_12 := (hPN5_11).gr hg12
  have hPN6_12 := (hPN6_11).gr hg12
  have hPN11_12 := (hn11).gr hg12
  have hF_12 := (hF_11).then hg12
  simp only [Act.put, zs, z0, z1]
  refine sF rfl ?_
  refine wp_storeB rfl rfl rfl (hPN11_12) ?_
  intro ws13 hs13 gx13
  have hPN1_13 := (hPN1_12).grx gx13 hnePN1_PN11
  have hPN5_13 := (hPN5_12).grx gx13 hnePN5_PN11
  have hPN6_13 := (hPN6_12).grx gx13 hnePN6_PN11
  have hPN12_13 := (hn12).grx gx13 (Ne.symm hnePN11_PN12)
  have hF_13 := (hF_12).thenx gx13 (.inr hge11)
  change AtA ws13 PN11 (bv P1) 33 at hs13
  simp only [Act.put, zs, z0, z1]
  refine sF rfl ?_
  refine wp_storeB rfl rfl rfl (hPN12_13) ?_
  intro ws14 hs14 gx14
  have hPN1_14 := (hPN1_13).grx gx14 hnePN1_PN12
  have hPN5_14 := (hPN5_13).grx gx14 hnePN5_PN12
  have hPN6_14 := (hPN6_13).grx gx14 hnePN6_PN12
  have hPN11_14 := (hs13).grx gx14 hnePN11_PN12
  have hF_14 := (hF_13).thenx gx14 (.inr hge12)
  change AtA ws14 PN12 (bv P2) 33 at hs14
  simp only [Act.put, zs, z0, z1]
  refine sF rfl ?_
  refine wA (v := .bool true) rfl rfl ?_
  simp only [Act.put, zs, z0, z1]
  refine sF rfl ?_
  refine wA (v := .int .i64 0) rfl rfl ?_
  simp only [Act.put, zs, z0, z1]
  refine s_end ?_
  go_upto_region 4 with fail
  refine rG ?_
  refine sF rfl ?_
  refine wM (v := .int .u8 d) rfl rfl ?_
  simp only [Act.put, zs, z0, z1]
  refine sF rfl ?_
  refine wM (v := .bool wd) rfl rfl ?_
  simp only [Act.put, zs, z0, z1]
  refine sF rfl ?_
  refine wp_loadB rfl rfl (hPN5_14) ?_
  simp only [Act.put, zs, z0, z1]
  refine sF rfl ?_
  refine wp_loadB rfl rfl (hPN6_14) ?_
  simp only [Act.put, zs, z0, z1]
  refine sF rfl ?_
  refine wp_call5 rfl rfl rfl rfl rfl rfl (by go_simp) ?_
  refine ((cF) _).mono ?_
  rintro e wk15 ⟨rfl, hk15⟩
  refine ⟨_, rfl, ?_⟩
  have hPN1_15 := (hPN1_14).gr hk15
  have hPN5_15 := (hPN5_14).gr hk15
  have hPN6_15 := (hPN6_14).gr hk15
  have hPN11_15 := (hPN11_14).gr hk15
  have hPN12_15 := (hs14).gr hk15
  have hF_15 := (hF_14).then hk15
  simp only [Act.put, zs, z0, z1]
  refine sF rfl ?_
  refine wM (v := .tuple #[.agg (bv Q1), .agg (bv Q2), .bool true, .int .i64 0]) rfl rfl ?_
  simp only [Act.put, zs, z0, z1]
  refine sF rfl ?_
  refine wp_extract (v := .agg (bv Q1)) rfl rfl rfl ?_
  simp only [Act.put, zs, z0, z1]
  refine sF rfl ?_
  refine wp_extract (v := .agg (bv Q2)) rfl rfl rfl ?_
  simp only [Act.put, zs, z0, z1]
  refine sF rfl ?_
  refine wp_extract (v := .bool true) rfl rfl rfl ?_
  simp only [Act.put, zs, z0, z1]
  refine sF rfl ?_
  refine wp_extract (v := .int .i64 0) rfl rfl rfl ?_
  simp only [Act.put, zs, z0, z1]
  refine sF rfl ?_
  refine wp_allocB rfl ?_
  intro ws16 hn16 hg16
  obtain ⟨PN16, hb16⟩ : ∃ b, wk15.heap.size = b := ⟨_, rfl⟩
  rw [hb16] at hn16 ⊢
  have hge16 := Nat.le_trans (hF_15).size (Nat.le_of_eq hb16)
  have hnePN1_PN16 : PN1 ≠ PN16 := nl (hPN1_15).lt hb16
  have hnePN5_PN16 : PN5 ≠ PN16 := nl (hPN5_15).lt hb16
  have hnePN6_PN16 : PN6 ≠ PN16 := nl (hPN6_15).lt hb16
  have hnePN11_PN16 : PN11 ≠ PN16 := nl (hPN11_15).lt hb16
  have hnePN12_PN16 : PN12 ≠ PN16 := nl (hPN12_15).lt hb16
  have hPN1_16 := (hPN1_15).gr hg16
  have hPN5_16 := (hPN5_15).gr hg16
  have hPN6_16 := (hPN6_15).gr hg16
  have hPN11_16 := (hPN11_15).gr hg16
  have hPN12_16 := (hPN12_15).gr hg16
  have hF_16 := (hF_15).then hg16
  simp only [Act.put, zs, z0, z1]
  refine sF rfl ?_
  refine wp_allocB rfl ?_
  intro ws17 hn17 hg17
  obtain ⟨PN17, hb17⟩ : ∃ b, ws16.heap.size = b := ⟨_, rfl⟩
  rw [hb17] at hn17 ⊢
  have hge17 := Nat.le_trans (hF_16).size (Nat.le_of_eq hb17)
  have hnePN1_PN17 : PN1 ≠ PN17 := nl (hPN1_16).lt hb17
  have hnePN5_PN17 : PN5 ≠ PN17 := nl (hPN5_16).lt hb17
  have hnePN6_PN17 : PN6 ≠ PN17 := nl (hPN6_16).lt hb17
  have hnePN11_PN17 : PN11 ≠ PN17 := nl (hPN11_16).lt hb17
  have hnePN12_PN17 : PN12 ≠ PN17 := nl (hPN12_16).lt hb17
  have hnePN16_PN17 : PN16 ≠ PN17 := nl (hn16).lt hb17
  have hPN1_17 := (hPN1_16).gr hg17
  have hPN5_17 := (hPN5_16).gr hg17
  have hPN6_17 := (hPN6_16).gr hg17
  have hPN11_17 := (hPN11_16).gr hg17
  have hPN12_17 := (hPN12_16).gr hg17
  have hPN16_17 := (hn16).gr hg17
  have hF_17 := (hF_16).then hg17
  simp only [Act.put, zs, z0, z1]
  refine sF rfl ?_
  refine wp_storeB rfl rfl rfl (hPN16_17) ?_
  intro ws18 hs18 gx18
  have hPN1_18 := (hPN1_17).grx gx18 hnePN1_PN16
  have hPN5_18 := (hPN5_17).grx gx18 hnePN5_PN16
  have hPN6_18 := (hPN6_17).grx gx18 hnePN6_PN16
  have hPN11_18 := (hPN11_17).grx gx18 hnePN11_PN16
  have hPN12_18 := (hPN12_17).grx gx18 hnePN12_PN16
  have hPN17_18 := (hn17).grx gx18 (Ne.symm hnePN16_PN17)
  have hF_18 := (hF_17).thenx gx18 (.inr hge16)
  change AtA ws18 PN16 (bv Q1) 33 at hs18
  simp only [Act.put, zs, z0, z1]
  refine sF rfl ?_
  refine wp_storeB rfl rfl rfl (hPN17_18) ?_
  intro ws19 hs19 gx19
  have hPN1_19 := (hPN1_18).grx gx19 hnePN1_PN17
  have hPN5_19 := (hPN5_18).grx gx19 hnePN5_PN17
  have hPN6_19 := (hPN6_18).grx gx19 hnePN6_PN17
  have hPN11_19 := (hPN11_18).grx gx19 hnePN11_PN17
  have hPN12_19 := (hPN12_18).grx gx19 hnePN12_PN17
  have hPN16_19 := (hs18).grx gx19 hnePN16_PN17
  have hF_19 := (hF_18).thenx gx19 (.inr hge17)
  change AtA ws19 PN17 (bv Q2) 33 at hs19
  simp only [Act.put, zs, z0, z1]
  refine sF rfl ?_
  refine wA (v := .bool true) rfl rfl ?_
  simp only [Act.put, zs, z0, z1]
  refine sF rfl ?_
  refine wA (v := .int .i64 0) rfl rfl ?_
  simp only [Act.put, zs, z0, z1]
  refine s_end ?_
  go_upto_region 5 with fail
  refine rG ?_
  refine sF rfl ?_
  refine wM (v := .int .u8 d) rfl rfl ?_
  simp only [Act.put, zs, z0, z1]
  refine sF rfl ?_
  refine wM (v := .bool wd) rfl rfl ?_
  simp only [Act.put, zs, z0, z1]
  refine sF rfl ?_
  refine wM (v := .int .u64 (iv y)) rfl rfl ?_
  simp only [Act.put, zs, z0, z1]
  refine sF rfl ?_
  refine wM (v := .int .u64 (iv nn)) rfl rfl ?_
  simp only [Act.put, zs, z0, z1]
  refine sF rfl ?_
  refine wp_call4 rfl rfl rfl rfl rfl (by go_simp) ?_
  refine ((cA) _).mono ?_
  rintro e wk20 ⟨rfl, hk20⟩
  refine ⟨_, rfl, ?_⟩
  have hPN1_20 := (hPN1_19).gr hk20
  have hPN5_20 := (hPN5_19).gr hk20
  have hPN6_20 := (hPN6_19).gr hk20
  have hPN11_20 := (hPN11_19).gr hk20
  have hPN12_20 := (hPN12_19).gr hk20
  have hPN16_20 := (hPN16_19).gr hk20
  have hPN17_20 := (hs19).gr hk20
  have hF_20 := (hF_19).then hk20
  simp only [Act.put, zs, z0, z1]
  refine sF rfl ?_
  refine wM (v := .tuple #[.bool false, .int .i64 0]) rfl rfl ?_
  simp only [Act.put, zs, z0, z1]
  refine sF rfl ?_
  refine wp_extract (v := .bool false) rfl rfl rfl ?_
  simp only [Act.put, zs, z0, z1]
  refine sF rfl ?_
  refine wp_extract (v := .int .i64 0) rfl rfl rfl ?_
  simp only [Act.put, zs, z0, z1]
  refine sF rfl ?_
  refine wA (v := .bool false) rfl rfl ?_
  simp only [Act.put, zs, z0, z1]
  refine sF rfl ?_
  refine wA (v := .int .i64 0) rfl rfl ?_
  simp only [Act.put, zs, z0, z1]
  refine s_end ?_
  go_upto_region 6 with fail
  refine rG ?_
  refine sF rfl ?_
  refine wM (v := .int .i64 0) rfl rfl ?_
  simp only [Act.put, zs, z0, z1]
  refine sF rfl ?_
  refine wp_neE rfl rfl ?_
  simp only [Act.put, zs, z0, z1]
  refine sF rfl ?_
  refine wM (v := .bool false) rfl rfl ?_
  simp only [Act.put, zs, z0, z1]
  refine s_do (by rfl) ?_
  refine wM (v := .int .i64 0) rfl rfl ?_
  simp only [Act.put, zs, z0, z1]
  refine s_do (by rfl) ?_
  refine wp_neE rfl rfl ?_
  simp only [Act.put, zs, z0, z1]
  refine sF rfl ?_
  refine wp_pickF (v := .bool false) rfl rfl rfl ?_
  simp only [Act.put, zs, z0, z1]
  refine sF rfl ?_
  refine wM (v := .bool false) rfl rfl ?_
  simp only [Act.put, zs, z0, z1]
  refine s_do (by rfl) ?_
  refine wM (v := .int .i64 0) rfl rfl ?_
  simp only [Act.put, zs, z0, z1]
  refine s_do (by rfl) ?_
  refine wp_neE rfl rfl ?_
  simp only [Act.put, zs, z0, z1]
  refine sF rfl ?_
  refine wp_pickF (v := .bool false) rfl rfl rfl ?_
  simp only [Act.put, zs, z0, z1]
  refine sF rfl ?_
  refine wM (v := .bool false) rfl rfl ?_
  simp only [Act.put, zs, z0, z1]
  refine s_do (by rfl) ?_
  refine wM (v := .bool true) rfl rfl ?_
  simp only [Act.put, zs, z0, z1]
  refine s_do (by rfl) ?_
  refine wp_notT rfl rfl ?_
  simp only [Act.put, zs, z0, z1]
  refine s_do (by rfl) ?_
  refine wM (v := .bool false) rfl rfl ?_
  simp only [Act.put, zs, z0, z1]
  refine s_skip (by rfl) ?_
  simp only [Act.put, zs, z0, z1]
  refine s_skip (by rfl) ?_
  simp only [Act.put, zs, z0, z1]
  refine s_do (by rfl) ?_
  refine wp_pickF (v := .bool false) rfl rfl rfl ?_
  simp only [Act.put, zs, z0, z1]
  refine sF rfl ?_
  refine wp_pickF (v := .bool false) rfl rfl rfl ?_
  simp only [Act.put, zs, z0, z1]
  refine s_end ?_
  go_upto_region 8 with fail
  refine rG ?_
  refine sF rfl ?_
  refine wp_loadB rfl rfl (hPN5_20) ?_
  simp only [Act.put, zs, z0, z1]
  refine sF rfl ?_
  refine wM (v := .int .u64 (iv y)) rfl rfl ?_
  simp only [Act.put, zs, z0, z1]
  refine sF rfl ?_
  refine wp_call2 rfl rfl rfl (by go_simp) ?_
  refine ((cH) _).mono ?_
  rintro e wk21 ⟨rfl, hk21⟩
  refine ⟨_, rfl, ?_⟩
  have hPN1_21 := (hPN1_20).gr hk21
  have hPN5_21 := (hPN5_20).gr hk21
  have hPN6_21 := (hPN6_20).gr hk21
  have hPN11_21 := (hPN11_20).gr hk21
  have hPN12_21 := (hPN12_20).gr hk21
  have hPN16_21 := (hPN16_20).gr hk21
  have hPN17_21 := (hPN17_20).gr hk21
  have hF_21 := (hF_20).then hk21
  simp only [Act.put, zs, z0, z1]
  refine sF rfl ?_
  refine wM (v := .bool false) rfl rfl ?_
  simp only [Act.put, zs, z0, z1]
  refine s_skip (by rfl) ?_
  simp only [Act.put, zs, z0, z1]
  refine s_skip (by rfl) ?_
  simp only [Act.put, zs, z0, z1]
  refine s_skip (by rfl) ?_
  simp only [Act.put, zs, z0, z1]
  refine s_skip (by rfl) ?_
  simp only [Act.put, zs, z0, z1]
  refine s_skip (by rfl) ?_
  simp only [Act.put, zs, z0, z1]
  refine s_skip (by rfl) ?_
  simp only [Act.put, zs, z0, z1]
  refine s_skip (by rfl) ?_
  simp only [Act.put, zs, z0, z1]
  refine s_skip (by rfl) ?_
  simp only [Act.put, zs, z0, z1]
  refine s_skip (by rfl) ?_
  simp only [Act.put, zs, z0, z1]
  refine s_skip (by rfl) ?_
  simp only [Act.put, zs, z0, z1]
  refine sF rfl ?_
  refine wp_pickF (v := .bool false) rfl rfl rfl ?_
  simp only [Act.put, zs, z0, z1]
  refine sF rfl ?_
  refine wM (v := .bool false) rfl rfl ?_
  simp only [Act.put, zs, z0, z1]
  refine s_skip (by rfl) ?_
  simp only [Act.put, zs, z0, z1]
  refine s_skip (by rfl) ?_
  simp only [Act.put, zs, z0, z1]
  refine s_skip (by rfl) ?_
  simp only [Act.put, zs, z0, z1]
  refine s_skip (by rfl) ?_
  simp only [Act.put, zs, z0, z1]
  refine s_skip (by rfl) ?_
  simp only [Act.put, zs, z0, z1]
  refine s_skip (by rfl) ?_
  simp only [Act.put, zs, z0, z1]
  refine s_skip (by rfl) ?_
  simp only [Act.put, zs, z0, z1]
  refine s_skip (by rfl) ?_
  simp only [Act.put, zs, z0, z1]
  refine s_skip (by rfl) ?_
  simp only [Act.put, zs, z0, z1]
  refine s_skip (by rfl) ?_
  simp only [Act.put, zs, z0, z1]
  refine s_skip (by rfl) ?_
  simp only [Act.put, zs, z0, z1]
  refine sF rfl ?_
  refine wp_pickF (v := .bool false) rfl rfl rfl ?_
  simp only [Act.put, zs, z0, z1]
  refine s_end ?_
  go_upto_region 10 with fail
  refine rG ?_
  refine sF rfl ?_
  refine wM (v := .bool true) rfl rfl ?_
  simp only [Act.put, zs, z0, z1]
  refine sF rfl ?_
  refine wM (v := .bool true) rfl rfl ?_
  simp only [Act.put, zs, z0, z1]
  refine s_skip (by rfl) ?_
  simp only [Act.put, zs, z0, z1]
  refine s_skip (by rfl) ?_
  simp only [Act.put, zs, z0, z1]
  refine sF rfl ?_
  refine wp_pickT (v := .bool true) rfl rfl rfl ?_
  simp only [Act.put, zs, z0, z1]
  refine sF rfl ?_
  refine wM (v := .bool true) rfl rfl ?_
  simp only [Act.put, zs, z0, z1]
  refine s_do (by rfl) ?_
  refine wM (v := .bool true) rfl rfl ?_
  simp only [Act.put, zs, z0, z1]
  refine s_do (by rfl) ?_
  refine wM (v := .bool true) rfl rfl ?_
  simp only [Act.put, zs, z0, z1]
  refine s_skip (by rfl) ?_
  simp only [Act.put, zs, z0, z1]
  refine s_skip (by rfl) ?_
  simp only [Act.put, zs, z0, z1]
  refine s_do (by rfl) ?_
  refine wp_pickT (v := .bool true) rfl rfl rfl ?_
  simp only [Act.put, zs, z0, z1]
  refine sF rfl ?_
  refine wp_pickT (v := .bool true) rfl rfl rfl ?_
  simp only [Act.put, zs, z0, z1]
  refine sF rfl ?_
  refine wM (v := .bool true) rfl rfl ?_
  simp only [Act.put, zs, z0, z1]
  refine s_do (by rfl) ?_
  refine wp_call0 rfl (by go_simp) ?_
  refine ((k_works) _).mono ?_
  rintro e wk22 ⟨rfl, hk22⟩
  refine ⟨_, rfl, ?_⟩
  have hPN1_22 := (hPN1_21).gr hk22
  have hPN5_22 := (hPN5_21).gr hk22
  have hPN6_22 := (hPN6_21).gr hk22
  have hPN11_22 := (hPN11_21).gr hk22
  have hPN12_22 := (hPN12_21).gr hk22
  have hPN16_22 := (hPN16_21).gr hk22
  have hPN17_22 := (hPN17_21).gr hk22
  have hF_22 := (hF_21).then hk22
  simp only [Act.put, zs, z0, z1]
  refine sF rfl ?_
  refine wp_pickT (v := .bool true) rfl rfl rfl ?_
  simp only [Act.put, zs, z0, z1]
  refine sF rfl ?_
  refine wA (v := .bool true) rfl rfl ?_
  simp only [Act.put, zs, z0, z1]
  refine s_end ?_
  go_wp2
  go_ret
  exact ⟨rfl, (hF_22).gr0⟩
 ·have cT := cT0; have cF := cF0; have cA := cA0; have cH := cH0
  rw [e1] at cT; rw [e2] at cF; rw [es] at cA; rw [eh] at cH
  clear cT0 cF0 cA0 cH0 K hPy hQy nP nQ eP1 eP2 eQ1 eQ2 e1 e2 eh es
  simp only [Act.put, zs, z0, z1]
  refine sF rfl ?_
  refine wp_call1 rfl rfl (by go_simp) ?_
  refine ((cS) _).mono ?_
  rintro e wk3 ⟨rfl, hk3⟩
  refine ⟨_, rfl, ?_⟩
  have hPN1_3 := (hPN1_2).gr hk3
  have hF_3 := (hF_2).then hk3
  simp only [Act.put, zs, z0, z1]
  refine sF rfl ?_
  refine wM (v := .int .u64 (iv nn)) rfl rfl ?_
  simp only [Act.put, zs, z0, z1]
  refine sF rfl ?_
  refine wp_call1 rfl rfl (by go_simp) ?_
  refine ((cC) _).mono ?_
  rintro e wk4 ⟨rfl, hk4⟩
  refine ⟨_, rfl, ?_⟩
  have hPN1_4 := (hPN1_3).gr hk4
  have hF_4 := (hF_3).then hk4
  simp only [Act.put, zs, z0, z1]
  refine sF rfl ?_
  refine wp_allocB rfl ?_
  intro ws5 hn5 hg5
  obtain ⟨PN5, hb5⟩ : ∃ b, wk4.heap.size = b := ⟨_, rfl⟩
  rw [hb5] at hn5 ⊢
  have hge5 := Nat.le_trans (hF_4).size (Nat.le_of_eq hb5)
  have hnePN1_PN5 : PN1 ≠ PN5 := nl (hPN1_4).lt hb5
  have hPN1_5 := (hPN1_4).gr hg5
  have hF_5 := (hF_4).then hg5
  simp only [Act.put, zs, z0, z1]
  refine sF rfl ?_
  refine wp_allocB rfl ?_
  intro ws6 hn6 hg6
  obtain ⟨PN6, hb6⟩ : ∃ b, ws5.heap.size = b := ⟨_, rfl⟩
  rw [hb6] at hn6 ⊢
  have hge6 := Nat.le_trans (hF_5).size (Nat.le_of_eq hb6)
  have hnePN1_PN6 : PN1 ≠ PN6 := nl (hPN1_5).lt hb6
  have hnePN5_PN6 : PN5 ≠ PN6 := nl (hn5).lt hb6
  have hPN1_6 := (hPN1_5).gr hg6
  have hPN5_6 := (hn5).gr hg6
  have hF_6 := (hF_5).then hg6
  simp only [Act.put, zs, z0, z1]
  refine sF rfl ?_
  refine wp_storeB rfl rfl rfl (hPN5_6) ?_
  intro ws7 hs7 gx7
  have hPN1_7 := (hPN1_6).grx gx7 hnePN1_PN5
  have hPN6_7 := (hn6).grx gx7 (Ne.symm hnePN5_PN6)
  have hF_7 := (hF_6).thenx gx7 (.inr hge5)
  change AtA ws7 PN5 (bv A) 33 at hs7
  simp only [Act.put, zs, z0, z1]
  refine sF rfl ?_
  refine wp_storeB rfl rfl rfl (hPN6_7) ?_
  intro ws8 hs8 gx8
  have hPN1_8 := (hPN1_7).grx gx8 hnePN1_PN6
  have hPN5_8 := (hs7).grx gx8 hnePN5_PN6
  have hF_8 := (hF_7).thenx gx8 (.inr hge6)
  change AtA ws8 PN6 (bv C) 33 at hs8
  simp only [Act.put, zs, z0, z1]
  refine s_end ?_
  go_upto_region 2 with fail
  refine rG ?_
  refine sF rfl ?_
  refine wM (v := .int .u8 c) rfl rfl ?_
  simp only [Act.put, zs, z0, z1]
  refine sF rfl ?_
  refine wp_call1 rfl rfl (by go_simp) ?_
  refine ((cd) _).mono ?_
  rintro e wk9 ⟨rfl, hk9⟩
  refine ⟨_, rfl, ?_⟩
  have hPN1_9 := (hPN1_8).gr hk9
  have hPN5_9 := (hPN5_8).gr hk9
  have hPN6_9 := (hs8).gr hk9
  have hF_9 := (hF_8).then hk9
  simp only [Act.put, zs, z0, z1]
  refine sF rfl ?_
  refine wA (v := .int .u8 d) rfl rfl ?_
  simp only [Act.put, zs, z0, z1]
  refine s_end ?_
  go_upto_region 3 with fail
  refine rG ?_
  refine sF rfl ?_
  refine wM (v := .int .u8 d) rfl rfl ?_
  simp only [Act.put, zs, z0, z1]
  refine sF rfl ?_
  refine wM (v := .bool wd) rfl rfl ?_
  simp only [Act.put, zs, z0, z1]
  refine sF rfl ?_
  refine wp_loadB rfl rfl (hPN5_9) ?_
  simp only [Act.put, zs, z0, z1]
  refine sF rfl ?_
  refine wp_loadB rfl rfl (hPN6_9) ?_
  simp only [Act.put, zs, z0, z1]
  refine sF rfl ?_
  refine wp_call5 rfl rfl rfl rfl rfl rfl (by go_simp) ?_
  refine ((cT) _).mono ?_
  rintro e wk10 ⟨rfl, hk10⟩
  refine ⟨_, rfl, ?_⟩
  have hPN1_10 := (hPN1_9).gr hk10
  have hPN5_10 := (hPN5_9).gr hk10
  have hPN6_10 := (hPN6_9).gr hk10
  have hF_10 := (hF_9).then hk10
  simp only [Act.put, zs, z0, z1]
  refine sF rfl ?_
  refine wM (v := .tuple #[.agg (bv P1), .agg (bv P2), .bool true, .int .i64 0]) rfl rfl ?_
  simp only [Act.put, zs, z0, z1]
  refine sF rfl ?_
  refine wp_extract (v := .agg (bv P1)) rfl rfl rfl ?_
  simp only [Act.put, zs, z0, z1]
  refine sF rfl ?_
  refine wp_extract (v := .agg (bv P2)) rfl rfl rfl ?_
  simp only [Act.put, zs, z0, z1]
  refine sF rfl ?_
  refine wp_extract (v := .bool true) rfl rfl rfl ?_
  simp only [Act.put, zs, z0, z1]
  refine sF rfl ?_
  refine wp_extract (v := .int .i64 0) rfl rfl rfl ?_
  simp only [Act.put, zs, z0, z1]
  refine sF rfl ?_
  refine wp_allocB rfl ?_
  intro ws11 hn11 hg11
  obtain ⟨PN11, hb11⟩ : ∃ b, wk10.heap.size = b := ⟨_, rfl⟩
  rw [hb11] at hn11 ⊢
  have hge11 := Nat.le_trans (hF_10).size (Nat.le_of_eq hb11)
  have hnePN1_PN11 : PN1 ≠ PN11 := nl (hPN1_10).lt hb11
  have hnePN5_PN11 : PN5 ≠ PN11 := nl (hPN5_10).lt hb11
  have hnePN6_PN11 : PN6 ≠ PN11 := nl (hPN6_10).lt hb11
  have hPN1_11 := (hPN1_10).gr hg11
  have hPN5_11 := (hPN5_10).gr hg11
  have hPN6_11 := (hPN6_10).gr hg11
  have hF_11 := (hF_10).then hg11
  simp only [Act.put, zs, z0, z1]
  refine sF rfl ?_
  refine wp_allocB rfl ?_
  intro ws12 hn12 hg12
  obtain ⟨PN12, hb12⟩ : ∃ b, ws11.heap.size = b := ⟨_, rfl⟩
  rw [hb12] at hn12 ⊢
  have hge12 := Nat.le_trans (hF_11).size (Nat.le_of_eq hb12)
  have hnePN1_PN12 : PN1 ≠ PN12 := nl (hPN1_11).lt hb12
  have hnePN5_PN12 : PN5 ≠ PN12 := nl (hPN5_11).lt hb12
  have hnePN6_PN12 : PN6 ≠ PN12 := nl (hPN6_11).lt hb12
  have hnePN11_PN12 : PN11 ≠ PN12 := nl (hn11).lt hb12
  have hPN1_12 := (hPN1_11).gr hg12
  have hPN5_12 := (hPN5_11).gr hg12
  have hPN6_12 := (hPN6_11).gr hg12
  have hPN11_12 := (hn11).gr hg12
  have hF_12 := (hF_11).then hg12
  simp only [Act.put, zs, z0, z1]
  refine sF rfl ?_
  refine wp_storeB rfl rfl rfl (hPN11_12) ?_
  intro ws13 hs13 gx13
  have hPN1_13 := (hPN1_12).grx gx13 hnePN1_PN11
  have hPN5_13 := (hPN5_12).grx gx13 hnePN5_PN11
  have hPN6_13 := (hPN6_12).grx gx13 hnePN6_PN11
  have hPN12_13 := (hn12).grx gx13 (Ne.symm hnePN11_PN12)
  have hF_13 := (hF_12).thenx gx13 (.inr hge11)
  change AtA ws13 PN11 (bv P1) 33 at hs13
  simp only [Act.put, zs, z0, z1]
  refine sF rfl ?_
  refine wp_storeB rfl rfl rfl (hPN12_13) ?_
  intro ws14 hs14 gx14
  have hPN1_14 := (hPN1_13).grx gx14 hnePN1_PN12
  have hPN5_14 := (hPN5_13).grx gx14 hnePN5_PN12
  have hPN6_14 := (hPN6_13).grx gx14 hnePN6_PN12
  have hPN11_14 := (hs13).grx gx14 hnePN11_PN12
  have hF_14 := (hF_13).thenx gx14 (.inr hge12)
  change AtA ws14 PN12 (bv P2) 33 at hs14
  simp only [Act.put, zs, z0, z1]
  refine sF rfl ?_
  refine wA (v := .bool true) rfl rfl ?_
  simp only [Act.put, zs, z0, z1]
  refine sF rfl ?_
  refine wA (v := .int .i64 0) rfl rfl ?_
  simp only [Act.put, zs, z0, z1]
  refine s_end ?_
  go_upto_region 4 with fail
  refine rG ?_
  refine sF rfl ?_
  refine wM (v := .int .u8 d) rfl rfl ?_
  simp only [Act.put, zs, z0, z1]
  refine sF rfl ?_
  refine wM (v := .bool wd) rfl rfl ?_
  simp only [Act.put, zs, z0, z1]
  refine sF rfl ?_
  refine wp_loadB rfl rfl (hPN5_14) ?_
  simp only [Act.put, zs, z0, z1]
  refine sF rfl ?_
  refine wp_loadB rfl rfl (hPN6_14) ?_
  simp only [Act.put, zs, z0, z1]
  refine sF rfl ?_
  refine wp_call5 rfl rfl rfl rfl rfl rfl (by go_simp) ?_
  refine ((cF) _).mono ?_
  rintro e wk15 ⟨rfl, hk15⟩
  refine ⟨_, rfl, ?_⟩
  have hPN1_15 := (hPN1_14).gr hk15
  have hPN5_15 := (hPN5_14).gr hk15
  have hPN6_15 := (hPN6_14).gr hk15
  have hPN11_15 := (hPN11_14).gr hk15
  have hPN12_15 := (hs14).gr hk15
  have hF_15 := (hF_14).then hk15
  simp only [Act.put, zs, z0, z1]
  refine sF rfl ?_
  refine wM (v := .tuple #[.agg (bv Q1), .agg (bv Q2), .bool true, .int .i64 0]) rfl rfl ?_
  simp only [Act.put, zs, z0, z1]
  refine sF rfl ?_
  refine wp_extract (v := .agg (bv Q1)) rfl rfl rfl ?_
  simp only [Act.put, zs, z0, z1]
  refine sF rfl ?_
  refine wp_extract (v := .agg (bv Q2)) rfl rfl rfl ?_
  simp only [Act.put, zs, z0, z1]
  refine sF rfl ?_
  refine wp_extract (v := .bool true) rfl rfl rfl ?_
  simp only [Act.put, zs, z0, z1]
  refine sF rfl ?_
  refine wp_extract (v := .int .i64 0) rfl rfl rfl ?_
  simp only [Act.put, zs, z0, z1]
  refine sF rfl ?_
  refine wp_allocB rfl ?_
  intro ws16 hn16 hg16
  obtain ⟨PN16, hb16⟩ : ∃ b, wk15.heap.size = b := ⟨_, rfl⟩
  rw [hb16] at hn16 ⊢
  have hge16 := Nat.le_trans (hF_15).size (Nat.le_of_eq hb16)
  have hnePN1_PN16 : PN1 ≠ PN16 := nl (hPN1_15).lt hb16
  have hnePN5_PN16 : PN5 ≠ PN16 := nl (hPN5_15).lt hb16
  have hnePN6_PN16 : PN6 ≠ PN16 := nl (hPN6_15).lt hb16
  have hnePN11_PN16 : PN11 ≠ PN16 := nl (hPN11_15).lt hb16
  have hnePN12_PN16 : PN12 ≠ PN16 := nl (hPN12_15).lt hb16
  have hPN1_16 := (hPN1_15).gr hg16
  have hPN5_16 := (hPN5_15).gr hg16
  have hPN6_16 := (hPN6_15).gr hg16
  have hPN11_16 := (hPN11_15).gr hg16
  have hPN12_16 := (hPN12_15).gr hg16
  have hF_16 := (hF_15).then hg16
  simp only [Act.put, zs, z0, z1]
  refine sF rfl ?_
  refine wp_allocB rfl ?_
  intro ws17 hn17 hg17
  obtain ⟨PN17, hb17⟩ : ∃ b, ws16.heap.size = b := ⟨_, rfl⟩
  rw [hb17] at hn17 ⊢
  have hge17 := Nat.le_trans (hF_16).size (Nat.le_of_eq hb17)
  have hnePN1_PN17 : PN1 ≠ PN17 := nl (hPN1_16).lt hb17
  have hnePN5_PN17 : PN5 ≠ PN17 := nl (hPN5_16).lt hb17
  have hnePN6_PN17 : PN6 ≠ PN17 := nl (hPN6_16).lt hb17
  have hnePN11_PN17 : PN11 ≠ PN17 := nl (hPN11_16).lt hb17
  have hnePN12_PN17 : PN12 ≠ PN17 := nl (hPN12_16).lt hb17
  have hnePN16_PN17 : PN16 ≠ PN17 := nl (hn16).lt hb17
  have hPN1_17 := (hPN1_16).gr hg17
  have hPN5_17 := (hPN5_16).gr hg17
  have hPN6_17 := (hPN6_16).gr hg17
  have hPN11_17 := (hPN11_16).gr hg17
  have hPN12_17 := (hPN12_16).gr hg17
  have hPN16_17 := (hn16).gr hg17
  have hF_17 := (hF_16).then hg17
  simp only [Act.put, zs, z0, z1]
  refine sF rfl ?_
  refine wp_storeB rfl rfl rfl (hPN16_17) ?_
  intro ws18 hs18 gx18
  have hPN1_18 := (hPN1_17).grx gx18 hnePN1_PN16
  have hPN5_18 := (hPN5_17).grx gx18 hnePN5_PN16
  have hPN6_18 := (hPN6_17).grx gx18 hnePN6_PN16
  have hPN11_18 := (hPN11_17).grx gx18 hnePN11_PN16
  have hPN12_18 := (hPN12_17).grx gx18 hnePN12_PN16
  have hPN17_18 := (hn17).grx gx18 (Ne.symm hnePN16_PN17)
  have hF_18 := (hF_17).thenx gx18 (.inr hge16)
  change AtA ws18 PN16 (bv Q1) 33 at hs18
  simp only [Act.put, zs, z0, z1]
  refine sF rfl ?_
  refine wp_storeB rfl rfl rfl (hPN17_18) ?_
  intro ws19 hs19 gx19
  have hPN1_19 := (hPN1_18).grx gx19 hnePN1_PN17
  have hPN5_19 := (hPN5_18).grx gx19 hnePN5_PN17
  have hPN6_19 := (hPN6_18).grx gx19 hnePN6_PN17
  have hPN11_19 := (hPN11_18).grx gx19 hnePN11_PN17
  have hPN12_19 := (hPN12_18).grx gx19 hnePN12_PN17
  have hPN16_19 := (hs18).grx gx19 hnePN16_PN17
  have hF_19 := (hF_18).thenx gx19 (.inr hge17)
  change AtA ws19 PN17 (bv Q2) 33 at hs19
  simp only [Act.put, zs, z0, z1]
  refine sF rfl ?_
  refine wA (v := .bool true) rfl rfl ?_
  simp only [Act.put, zs, z0, z1]
  refine sF rfl ?_
  refine wA (v := .int .i64 0) rfl rfl ?_
  simp only [Act.put, zs, z0, z1]
  refine s_end ?_
  go_upto_region 5 with fail
  refine rG ?_
  refine sF rfl ?_
  refine wM (v := .int .u8 d) rfl rfl ?_
  simp only [Act.put, zs, z0, z1]
  refine sF rfl ?_
  refine wM (v := .bool wd) rfl rfl ?_
  simp only [Act.put, zs, z0, z1]
  refine sF rfl ?_
  refine wM (v := .int .u64 (iv y)) rfl rfl ?_
  simp only [Act.put, zs, z0, z1]
  refine sF rfl ?_
  refine wM (v := .int .u64 (iv nn)) rfl rfl ?_
  simp only [Act.put, zs, z0, z1]
  refine sF rfl ?_
  refine wp_call4 rfl rfl rfl rfl rfl (by go_simp) ?_
  refine ((cA) _).mono ?_
  rintro e wk20 ⟨rfl, hk20⟩
  refine ⟨_, rfl, ?_⟩
  have hPN1_20 := (hPN1_19).gr hk20
  have hPN5_20 := (hPN5_19).gr hk20
  have hPN6_20 := (hPN6_19).gr hk20
  have hPN11_20 := (hPN11_19).gr hk20
  have hPN12_20 := (hPN12_19).gr hk20
  have hPN16_20 := (hPN16_19).gr hk20
  have hPN17_20 := (hs19).gr hk20
  have hF_20 := (hF_19).then hk20
  simp only [Act.put, zs, z0, z1]
  refine sF rfl ?_
  refine wM (v := .tuple #[.bool true, .int .i64 0]) rfl rfl ?_
  simp only [Act.put, zs, z0, z1]
  refine sF rfl ?_
  refine wp_extract (v := .bool true) rfl rfl rfl ?_
  simp only [Act.put, zs, z0, z1]
  refine sF rfl ?_
  refine wp_extract (v := .int .i64 0) rfl rfl rfl ?_
  simp only [Act.put, zs, z0, z1]
  refine sF rfl ?_
  refine wA (v := .bool true) rfl rfl ?_
  simp only [Act.put, zs, z0, z1]
  refine sF rfl ?_
  refine wA (v := .int .i64 0) rfl rfl ?_
  simp only [Act.put, zs, z0, z1]
  refine s_end ?_
  go_upto_region 6 with fail
  refine rG ?_
  refine sF rfl ?_
  refine wM (v := .int .i64 0) rfl rfl ?_
  simp only [Act.put, zs, z0, z1]
  refine sF rfl ?_
  refine wp_neE rfl rfl ?_
  simp only [Act.put, zs, z0, z1]
  refine sF rfl ?_
  refine wM (v := .bool false) rfl rfl ?_
  simp only [Act.put, zs, z0, z1]
  refine s_do (by rfl) ?_
  refine wM (v := .int .i64 0) rfl rfl ?_
  simp only [Act.put, zs, z0, z1]
  refine s_do (by rfl) ?_
  refine wp_neE rfl rfl ?_
  simp only [Act.put, zs, z0, z1]
  refine sF rfl ?_
  refine wp_pickF (v := .bool false) rfl rfl rfl ?_
  simp only [Act.put, zs, z0, z1]
  refine sF rfl ?_
  refine wM (v := .bool false) rfl rfl ?_
  simp only [Act.put, zs, z0, z1]
  refine s_do (by rfl) ?_
  refine wM (v := .int .i64 0) rfl rfl ?_
  simp only [Act.put, zs, z0, z1]
  refine s_do (by rfl) ?_
  refine wp_neE rfl rfl ?_
  simp only [Act.put, zs, z0, z1]
  refine sF rfl ?_
  refine wp_pickF (v := .bool false) rfl rfl rfl ?_
  simp only [Act.put, zs, z0, z1]
  refine sF rfl ?_
  refine wM (v := .bool false) rfl rfl ?_
  simp only [Act.put, zs, z0, z1]
  refine s_do (by rfl) ?_
  refine wM (v := .bool true) rfl rfl ?_
  simp only [Act.put, zs, z0, z1]
  refine s_do (by rfl) ?_
  refine wp_notT rfl rfl ?_
  simp only [Act.put, zs, z0, z1]
  refine s_do (by rfl) ?_
  refine wM (v := .bool false) rfl rfl ?_
  simp only [Act.put, zs, z0, z1]
  refine s_skip (by rfl) ?_
  simp only [Act.put, zs, z0, z1]
  refine s_skip (by rfl) ?_
  simp only [Act.put, zs, z0, z1]
  refine s_do (by rfl) ?_
  refine wp_pickF (v := .bool false) rfl rfl rfl ?_
  simp only [Act.put, zs, z0, z1]
  refine sF rfl ?_
  refine wp_pickF (v := .bool false) rfl rfl rfl ?_
  simp only [Act.put, zs, z0, z1]
  refine s_end ?_
  go_upto_region 8 with fail
  refine rG ?_
  refine sF rfl ?_
  refine wp_loadB rfl rfl (hPN5_20) ?_
  simp only [Act.put, zs, z0, z1]
  refine sF rfl ?_
  refine wM (v := .int .u64 (iv y)) rfl rfl ?_
  simp only [Act.put, zs, z0, z1]
  refine sF rfl ?_
  refine wp_call2 rfl rfl rfl (by go_simp) ?_
  refine ((cH) _).mono ?_
  rintro e wk21 ⟨rfl, hk21⟩
  refine ⟨_, rfl, ?_⟩
  have hPN1_21 := (hPN1_20).gr hk21
  have hPN5_21 := (hPN5_20).gr hk21
  have hPN6_21 := (hPN6_20).gr hk21
  have hPN11_21 := (hPN11_20).gr hk21
  have hPN12_21 := (hPN12_20).gr hk21
  have hPN16_21 := (hPN16_20).gr hk21
  have hPN17_21 := (hPN17_20).gr hk21
  have hF_21 := (hF_20).then hk21
  simp only [Act.put, zs, z0, z1]
  refine sF rfl ?_
  refine wM (v := .bool false) rfl rfl ?_
  simp only [Act.put, zs, z0, z1]
  refine s_skip (by rfl) ?_
  simp only [Act.put, zs, z0, z1]
  refine s_skip (by rfl) ?_
  simp only [Act.put, zs, z0, z1]
  refine s_skip (by rfl) ?_
  simp only [Act.put, zs, z0, z1]
  refine s_skip (by rfl) ?_
  simp only [Act.put, zs, z0, z1]
  refine s_skip (by rfl) ?_
  simp only [Act.put, zs, z0, z1]
  refine s_skip (by rfl) ?_
  simp only [Act.put, zs, z0, z1]
  refine s_skip (by rfl) ?_
  simp only [Act.put, zs, z0, z1]
  refine s_skip (by rfl) ?_
  simp only [Act.put, zs, z0, z1]
  refine s_skip (by rfl) ?_
  simp only [Act.put, zs, z0, z1]
  refine s_skip (by rfl) ?_
  simp only [Act.put, zs, z0, z1]
  refine sF rfl ?_
  refine wp_pickF (v := .bool false) rfl rfl rfl ?_
  simp only [Act.put, zs, z0, z1]
  refine sF rfl ?_
  refine wM (v := .bool false) rfl rfl ?_
  simp only [Act.put, zs, z0, z1]
  refine s_skip (by rfl) ?_
  simp only [Act.put, zs, z0, z1]
  refine s_skip (by rfl) ?_
  simp only [Act.put, zs, z0, z1]
  refine s_skip (by rfl) ?_
  simp only [Act.put, zs, z0, z1]
  refine s_skip (by rfl) ?_
  simp only [Act.put, zs, z0, z1]
  refine s_skip (by rfl) ?_
  simp only [Act.put, zs, z0, z1]
  refine s_skip (by rfl) ?_
  simp only [Act.put, zs, z0, z1]
  refine s_skip (by rfl) ?_
  simp only [Act.put, zs, z0, z1]
  refine s_skip (by rfl) ?_
  simp only [Act.put, zs, z0, z1]
  refine s_skip (by rfl) ?_
  simp only [Act.put, zs, z0, z1]
  refine s_skip (by rfl) ?_
  simp only [Act.put, zs, z0, z1]
  refine s_skip (by rfl) ?_
  simp only [Act.put, zs, z0, z1]
  refine sF rfl ?_
  refine wp_pickF (v := .bool false) rfl rfl rfl ?_
  simp only [Act.put, zs, z0, z1]
  refine s_end ?_
  go_upto_region 10 with fail
  refine rG ?_
  refine sF rfl ?_
  refine wM (v := .bool true) rfl rfl ?_
  simp only [Act.put, zs, z0, z1]
  refine sF rfl ?_
  refine wM (v := .bool true) rfl rfl ?_
  simp only [Act.put, zs, z0, z1]
  refine s_skip (by rfl) ?_
  simp only [Act.put, zs, z0, z1]
  refine s_skip (by rfl) ?_
  simp only [Act.put, zs, z0, z1]
  refine sF rfl ?_
  refine wp_pickT (v := .bool true) rfl rfl rfl ?_
  simp only [Act.put, zs, z0, z1]
  refine sF rfl ?_
  refine wM (v := .bool true) rfl rfl ?_
  simp only [Act.put, zs, z0, z1]
  refine s_do (by rfl) ?_
  refine wM (v := .bool true) rfl rfl ?_
  simp only [Act.put, zs, z0, z1]
  refine s_do (by rfl) ?_
  refine wM (v := .bool true) rfl rfl ?_
  simp only [Act.put, zs, z0, z1]
  refine s_skip (by rfl) ?_
  simp only [Act.put, zs, z0, z1]
  refine s_skip (by rfl) ?_
  simp only [Act.put, zs, z0, z1]
  refine s_do (by rfl) ?_
  refine wp_pickT (v := .bool true) rfl rfl rfl ?_
  simp only [Act.put, zs, z0, z1]
  refine sF rfl ?_
  refine wp_pickT (v := .bool true) rfl rfl rfl ?_
  simp only [Act.put, zs, z0, z1]
  refine sF rfl ?_
  refine wM (v := .bool true) rfl rfl ?_
  simp only [Act.put, zs, z0, z1]
  refine s_do (by rfl) ?_
  refine wp_call0 rfl (by go_simp) ?_
  refine ((k_works) _).mono ?_
  rintro e wk22 ⟨rfl, hk22⟩
  refine ⟨_, rfl, ?_⟩
  have hPN1_22 := (hPN1_21).gr hk22
  have hPN5_22 := (hPN5_21).gr hk22
  have hPN6_22 := (hPN6_21).gr hk22
  have hPN11_22 := (hPN11_21).gr hk22
  have hPN12_22 := (hPN12_21).gr hk22
  have hPN16_22 := (hPN16_21).gr hk22
  have hPN17_22 := (hPN17_21).gr hk22
  have hF_22 := (hF_21).then hk22
  simp only [Act.put, zs, z0, z1]
  refine sF rfl ?_
  refine wp_pickT (v := .bool true) rfl rfl rfl ?_
  simp only [Act.put, zs, z0, z1]
  refine sF rfl ?_
  refine wA (v := .bool true) rfl rfl ?_
  simp only [Act.put, zs, z0, z1]
  refine s_end ?_
  go_wp2
  go_ret
  exact ⟨rfl, (hF_22).gr0⟩
 ·have cT := cT0; have cF := cF0; have cA := cA0; have cH := cH0
  rw [e1] at cT; rw [e2] at cF; rw [es] at cA; rw [eh] at cH
  have cHQ := hQy eh es
  clear cT0 cF0 cA0 cH0 K hPy hQy nP nQ eP1 eP2 eQ1 eQ2 e1 e2 eh es
  simp only [Act.put, zs, z0, z1]
  refine sF rfl ?_
  refine wp_call1 rfl rfl (by go_simp) ?_
  refine ((cS) _).mono ?_
  rintro e wk3 ⟨rfl, hk3⟩
  refine ⟨_, rfl, ?_⟩
  have hPN1_3 := (hPN1_2).gr hk3
  have hF_3 := (hF_2).then hk3
  simp only [Act.put, zs, z0, z1]
  refine sF rfl ?_
  refine wM (v := .int .u64 (iv nn)) rfl rfl ?_
  simp only [Act.put, zs, z0, z1]
  refine sF rfl ?_
  refine wp_call1 rfl rfl (by go_simp) ?_
  refine ((cC) _).mono ?_
  rintro e wk4 ⟨rfl, hk4⟩
  refine ⟨_, rfl, ?_⟩
  have hPN1_4 := (hPN1_3).gr hk4
  have hF_4 := (hF_3).then hk4
  simp only [Act.put, zs, z0, z1]
  refine sF rfl ?_
  refine wp_allocB rfl ?_
  intro ws5 hn5 hg5
  obtain ⟨PN5, hb5⟩ : ∃ b, wk4.heap.size = b := ⟨_, rfl⟩
  rw [hb5] at hn5 ⊢
  have hge5 := Nat.le_trans (hF_4).size (Nat.le_of_eq hb5)
  have hnePN1_PN5 : PN1 ≠ PN5 := nl (hPN1_4).lt hb5
  have hPN1_5 := (hPN1_4).gr hg5
  have hF_5 := (hF_4).then hg5
  simp only [Act.put, zs, z0, z1]
  refine sF rfl ?_
  refine wp_allocB rfl ?_
  intro ws6 hn6 hg6
  obtain ⟨PN6, hb6⟩ : ∃ b, ws5.heap.size = b := ⟨_, rfl⟩
  rw [hb6] at hn6 ⊢
  have hge6 := Nat.le_trans (hF_5).size (Nat.le_of_eq hb6)
  have hnePN1_PN6 : PN1 ≠ PN6 := nl (hPN1_5).lt hb6
  have hnePN5_PN6 : PN5 ≠ PN6 := nl (hn5).lt hb6
  have hPN1_6 := (hPN1_5).gr hg6
  have hPN5_6 := (hn5).gr hg6
  have hF_6 := (hF_5).then hg6
  simp only [Act.put, zs, z0, z1]
  refine sF rfl ?_
  refine wp_storeB rfl rfl rfl (hPN5_6) ?_
  intro ws7 hs7 gx7
  have hPN1_7 := (hPN1_6).grx gx7 hnePN1_PN5
  have hPN6_7 := (hn6).grx gx7 (Ne.symm hnePN5_PN6)
  have hF_7 := (hF_6).thenx gx7 (.inr hge5)
  change AtA ws7 PN5 (bv A) 33 at hs7
  simp only [Act.put, zs, z0, z1]
  refine sF rfl ?_
  refine wp_storeB rfl rfl rfl (hPN6_7) ?_
  intro ws8 hs8 gx8
  have hPN1_8 := (hPN1_7).grx gx8 hnePN1_PN6
  have hPN5_8 := (hs7).grx gx8 hnePN5_PN6
  have hF_8 := (hF_7).thenx gx8 (.inr hge6)
  change AtA ws8 PN6 (bv C) 33 at hs8
  simp only [Act.put, zs, z0, z1]
  refine s_end ?_
  go_upto_region 2 with fail
  refine rG ?_
  refine sF rfl ?_
  refine wM (v := .int .u8 c) rfl rfl ?_
  simp only [Act.put, zs, z0, z1]
  refine sF rfl ?_
  refine wp_call1 rfl rfl (by go_simp) ?_
  refine ((cd) _).mono ?_
  rintro e wk9 ⟨rfl, hk9⟩
  refine ⟨_, rfl, ?_⟩
  have hPN1_9 := (hPN1_8).gr hk9
  have hPN5_9 := (hPN5_8).gr hk9
  have hPN6_9 := (hs8).gr hk9
  have hF_9 := (hF_8).then hk9
  simp only [Act.put, zs, z0, z1]
  refine sF rfl ?_
  refine wA (v := .int .u8 d) rfl rfl ?_
  simp only [Act.put, zs, z0, z1]
  refine s_end ?_
  go_upto_region 3 with fail
  refine rG ?_
  refine sF rfl ?_
  refine wM (v := .int .u8 d) rfl rfl ?_
  simp only [Act.put, zs, z0, z1]
  refine sF rfl ?_
  refine wM (v := .bool wd) rfl rfl ?_
  simp only [Act.put, zs, z0, z1]
  refine sF rfl ?_
  refine wp_loadB rfl rfl (hPN5_9) ?_
  simp only [Act.put, zs, z0, z1]
  refine sF rfl ?_
  refine wp_loadB rfl rfl (hPN6_9) ?_
  simp only [Act.put, zs, z0, z1]
  refine sF rfl ?_
  refine wp_call5 rfl rfl rfl rfl rfl rfl (by go_simp) ?_
  refine ((cT) _).mono ?_
  rintro e wk10 ⟨rfl, hk10⟩
  refine ⟨_, rfl, ?_⟩
  have hPN1_10 := (hPN1_9).gr hk10
  have hPN5_10 := (hPN5_9).gr hk10
  have hPN6_10 := (hPN6_9).gr hk10
  have hF_10 := (hF_9).then hk10
  simp only [Act.put, zs, z0, z1]
  refine sF rfl ?_
  refine wM (v := .tuple #[.agg (bv P1), .agg (bv P2), .bool true, .int .i64 0]) rfl rfl ?_
  simp only [Act.put, zs, z0, z1]
  refine sF rfl ?_
  refine wp_extract (v := .agg (bv P1)) rfl rfl rfl ?_
  simp only [Act.put, zs, z0, z1]
  refine sF rfl ?_
  refine wp_extract (v := .agg (bv P2)) rfl rfl rfl ?_
  simp only [Act.put, zs, z0, z1]
  refine sF rfl ?_
  refine wp_extract (v := .bool true) rfl rfl rfl ?_
  simp only [Act.put, zs, z0, z1]
  refine sF rfl ?_
  refine wp_extract (v := .int .i64 0) rfl rfl rfl ?_
  simp only [Act.put, zs, z0, z1]
  refine sF rfl ?_
  refine wp_allocB rfl ?_
  intro ws11 hn11 hg11
  obtain ⟨PN11, hb11⟩ : ∃ b, wk10.heap.size = b := ⟨_, rfl⟩
  rw [hb11] at hn11 ⊢
  have hge11 := Nat.le_trans (hF_10).size (Nat.le_of_eq hb11)
  have hnePN1_PN11 : PN1 ≠ PN11 := nl (hPN1_10).lt hb11
  have hnePN5_PN11 : PN5 ≠ PN11 := nl (hPN5_10).lt hb11
  have hnePN6_PN11 : PN6 ≠ PN11 := nl (hPN6_10).lt hb11
  have hPN1_11 := (hPN1_10).gr hg11
  have hPN5_11 := (hPN5_10).gr hg11
  have hPN6_11 := (hPN6_10).gr hg11
  have hF_11 := (hF_10).then hg11
  simp only [Act.put, zs, z0, z1]
  refine sF rfl ?_
  refine wp_allocB rfl ?_
  intro ws12 hn12 hg12
  obtain ⟨PN12, hb12⟩ : ∃ b, ws11.heap.size = b := ⟨_, rfl⟩
  rw [hb12] at hn12 ⊢
  have hge12 := Nat.le_trans (hF_11).size (Nat.le_of_eq hb12)
  have hnePN1_PN12 : PN1 ≠ PN12 := nl (hPN1_11).lt hb12
  have hnePN5_PN12 : PN5 ≠ PN12 := nl (hPN5_11).lt hb12
  have hnePN6_PN12 : PN6 ≠ PN12 := nl (hPN6_11).lt hb12
  have hnePN11_PN12 : PN11 ≠ PN12 := nl (hn11).lt hb12
  have hPN1_12 := (hPN1_11).gr hg12
  have hPN5_12 := (hPN5_11).gr hg12
  have hPN6_12 := (hPN6_11).gr hg12
  have hPN11_12 := (hn11).gr hg12
  have hF_12 := (hF_11).then hg12
  simp only [Act.put, zs, z0, z1]
  refine sF rfl ?_
  refine wp_storeB rfl rfl rfl (hPN11_12) ?_
  intro ws13 hs13 gx13
  have hPN1_13 := (hPN1_12).grx gx13 hnePN1_PN11
  have hPN5_13 := (hPN5_12).grx gx13 hnePN5_PN11
  have hPN6_13 := (hPN6_12).grx gx13 hnePN6_PN11
  have hPN12_13 := (hn12).grx gx13 (Ne.symm hnePN11_PN12)
  have hF_13 := (hF_12).thenx gx13 (.inr hge11)
  change AtA ws13 PN11 (bv P1) 33 at hs13
  simp only [Act.put, zs, z0, z1]
  refine sF rfl ?_
  refine wp_storeB rfl rfl rfl (hPN12_13) ?_
  intro ws14 hs14 gx14
  have hPN1_14 := (hPN1_13).grx gx14 hnePN1_PN12
  have hPN5_14 := (hPN5_13).grx gx14 hnePN5_PN12
  have hPN6_14 := (hPN6_13).grx gx14 hnePN6_PN12
  have hPN11_14 := (hs13).grx gx14 hnePN11_PN12
  have hF_14 := (hF_13).thenx gx14 (.inr hge12)
  change AtA ws14 PN12 (bv P2) 33 at hs14
  simp only [Act.put, zs, z0, z1]
  refine sF rfl ?_
  refine wA (v := .bool true) rfl rfl ?_
  simp only [Act.put, zs, z0, z1]
  refine sF rfl ?_
  refine wA (v := .int .i64 0) rfl rfl ?_
  simp only [Act.put, zs, z0, z1]
  refine s_end ?_
  go_upto_region 4 with fail
  refine rG ?_
  refine sF rfl ?_
  refine wM (v := .int .u8 d) rfl rfl ?_
  simp only [Act.put, zs, z0, z1]
  refine sF rfl ?_
  refine wM (v := .bool wd) rfl rfl ?_
  simp only [Act.put, zs, z0, z1]
  refine sF rfl ?_
  refine wp_loadB rfl rfl (hPN5_14) ?_
  simp only [Act.put, zs, z0, z1]
  refine sF rfl ?_
  refine wp_loadB rfl rfl (hPN6_14) ?_
  simp only [Act.put, zs, z0, z1]
  refine sF rfl ?_
  refine wp_call5 rfl rfl rfl rfl rfl rfl (by go_simp) ?_
  refine ((cF) _).mono ?_
  rintro e wk15 ⟨rfl, hk15⟩
  refine ⟨_, rfl, ?_⟩
  have hPN1_15 := (hPN1_14).gr hk15
  have hPN5_15 := (hPN5_14).gr hk15
  have hPN6_15 := (hPN6_14).gr hk15
  have hPN11_15 := (hPN11_14).gr hk15
  have hPN12_15 := (hs14).gr hk15
  have hF_15 := (hF_14).then hk15
  simp only [Act.put, zs, z0, z1]
  refine sF rfl ?_
  refine wM (v := .tuple #[.agg (bv Q1), .agg (bv Q2), .bool true, .int .i64 0]) rfl rfl ?_
  simp only [Act.put, zs, z0, z1]
  refine sF rfl ?_
  refine wp_extract (v := .agg (bv Q1)) rfl rfl rfl ?_
  simp only [Act.put, zs, z0, z1]
  refine sF rfl ?_
  refine wp_extract (v := .agg (bv Q2)) rfl rfl rfl ?_
  simp only [Act.put, zs, z0, z1]
  refine sF rfl ?_
  refine wp_extract (v := .bool true) rfl rfl rfl ?_
  simp only [Act.put, zs, z0, z1]
  refine sF rfl ?_
  refine wp_extract (v := .int .i64 0) rfl rfl rfl ?_
  simp only [Act.put, zs, z0, z1]
  refine sF rfl ?_
  refine wp_allocB rfl ?_
  intro ws16 hn16 hg16
  obtain ⟨PN16, hb16⟩ : ∃ b, wk15.heap.size = b := ⟨_, rfl⟩
  rw [hb16] at hn16 ⊢
  have hge16 := Nat.le_trans (hF_15).size (Nat.le_of_eq hb16)
  have hnePN1_PN16 : PN1 ≠ PN16 := nl (hPN1_15).lt hb16
  have hnePN5_PN16 : PN5 ≠ PN16 := nl (hPN5_15).lt hb16
  have hnePN6_PN16 : PN6 ≠ PN16 := nl (hPN6_15).lt hb16
  have hnePN11_PN16 : PN11 ≠ PN16 := nl (hPN11_15).lt hb16
  have hnePN12_PN16 : PN12 ≠ PN16 := nl (hPN12_15).lt hb16
  have hPN1_16 := (hPN1_15).gr hg16
  have hPN5_16 := (hPN5_15).gr hg16
  have hPN6_16 := (hPN6_15).gr hg16
  have hPN11_16 := (hPN11_15).gr hg16
  have hPN12_16 := (hPN12_15).gr hg16
  have hF_16 := (hF_15).then hg16
  simp only [Act.put, zs, z0, z1]
  refine sF rfl ?_
  refine wp_allocB rfl ?_
  intro ws17 hn17 hg17
  obtain ⟨PN17, hb17⟩ : ∃ b, ws16.heap.size = b := ⟨_, rfl⟩
  rw [hb17] at hn17 ⊢
  have hge17 := Nat.le_trans (hF_16).size (Nat.le_of_eq hb17)
  have hnePN1_PN17 : PN1 ≠ PN17 := nl (hPN1_16).lt hb17
  have hnePN5_PN17 : PN5 ≠ PN17 := nl (hPN5_16).lt hb17
  have hnePN6_PN17 : PN6 ≠ PN17 := nl (hPN6_16).lt hb17
  have hnePN11_PN17 : PN11 ≠ PN17 := nl (hPN11_16).lt hb17
  have hnePN12_PN17 : PN12 ≠ PN17 := nl (hPN12_16).lt hb17
  have hnePN16_PN17 : PN16 ≠ PN17 := nl (hn16).lt hb17
  have hPN1_17 := (hPN1_16).gr hg17
  have hPN5_17 := (hPN5_16).gr hg17
  have hPN6_17 := (hPN6_16).gr hg17
  have hPN11_17 := (hPN11_16).gr hg17
  have hPN12_17 := (hPN12_16).gr hg17
  have hPN16_17 := (hn16).gr hg17
  have hF_17 := (hF_16).then hg17
  simp only [Act.put, zs, z0, z1]
  refine sF rfl ?_
  refine wp_storeB rfl rfl rfl (hPN16_17) ?_
  intro ws18 hs18 gx18
  have hPN1_18 := (hPN1_17).grx gx18 hnePN1_PN16
  have hPN5_18 := (hPN5_17).grx gx18 hnePN5_PN16
  have hPN6_18 := (hPN6_17).grx gx18 hnePN6_PN16
  have hPN11_18 := (hPN11_17).grx gx18 hnePN11_PN16
  have hPN12_18 := (hPN12_17).grx gx18 hnePN12_PN16
  have hPN17_18 := (hn17).grx gx18 (Ne.symm hnePN16_PN17)
  have hF_18 := (hF_17).thenx gx18 (.inr hge16)
  change AtA ws18 PN16 (bv Q1) 33 at hs18
  simp only [Act.put, zs, z0, z1]
  refine sF rfl ?_
  refine wp_storeB rfl rfl rfl (hPN17_18) ?_
  intro ws19 hs19 gx19
  have hPN1_19 := (hPN1_18).grx gx19 hnePN1_PN17
  have hPN5_19 := (hPN5_18).grx gx19 hnePN5_PN17
  have hPN6_19 := (hPN6_18).grx gx19 hnePN6_PN17
  have hPN11_19 := (hPN11_18).grx gx19 hnePN11_PN17
  have hPN12_19 := (hPN12_18).grx gx19 hnePN12_PN17
  have hPN16_19 := (hs18).grx gx19 hnePN16_PN17
  have hF_19 := (hF_18).thenx gx19 (.inr hge17)
  change AtA ws19 PN17 (bv Q2) 33 at hs19
  simp only [Act.put, zs, z0, z1]
  refine sF rfl ?_
  refine wA (v := .bool true) rfl rfl ?_
  simp only [Act.put, zs, z0, z1]
  refine sF rfl ?_
  refine wA (v := .int .i64 0) rfl rfl ?_
  simp only [Act.put, zs, z0, z1]
  refine s_end ?_
  go_upto_region 5 with fail
  refine rG ?_
  refine sF rfl ?_
  refine wM (v := .int .u8 d) rfl rfl ?_
  simp only [Act.put, zs, z0, z1]
  refine sF rfl ?_
  refine wM (v := .bool wd) rfl rfl ?_
  simp only [Act.put, zs, z0, z1]
  refine sF rfl ?_
  refine wM (v := .int .u64 (iv y)) rfl rfl ?_
  simp only [Act.put, zs, z0, z1]
  refine sF rfl ?_
  refine wM (v := .int .u64 (iv nn)) rfl rfl ?_
  simp only [Act.put, zs, z0, z1]
  refine sF rfl ?_
  refine wp_call4 rfl rfl rfl rfl rfl (by go_simp) ?_
  refine ((cA) _).mono ?_
  rintro e wk20 ⟨rfl, hk20⟩
  refine ⟨_, rfl, ?_⟩
  have hPN1_20 := (hPN1_19).gr hk20
  have hPN5_20 := (hPN5_19).gr hk20
  have hPN6_20 := (hPN6_19).gr hk20
  have hPN11_20 := (hPN11_19).gr hk20
  have hPN12_20 := (hPN12_19).gr hk20
  have hPN16_20 := (hPN16_19).gr hk20
  have hPN17_20 := (hs19).gr hk20
  have hF_20 := (hF_19).then hk20
  simp only [Act.put, zs, z0, z1]
  refine sF rfl ?_
  refine wM (v := .tuple #[.bool false, .int .i64 0]) rfl rfl ?_
  simp only [Act.put, zs, z0, z1]
  refine sF rfl ?_
  refine wp_extract (v := .bool false) rfl rfl rfl ?_
  simp only [Act.put, zs, z0, z1]
  refine sF rfl ?_
  refine wp_extract (v := .int .i64 0) rfl rfl rfl ?_
  simp only [Act.put, zs, z0, z1]
  refine sF rfl ?_
  refine wA (v := .bool false) rfl rfl ?_
  simp only [Act.put, zs, z0, z1]
  refine sF rfl ?_
  refine wA (v := .int .i64 0) rfl rfl ?_
  simp only [Act.put, zs, z0, z1]
  refine s_end ?_
  go_upto_region 6 with fail
  refine rG ?_
  refine sF rfl ?_
  refine wM (v := .int .i64 0) rfl rfl ?_
  simp only [Act.put, zs, z0, z1]
  refine sF rfl ?_
  refine wp_neE rfl rfl ?_
  simp only [Act.put, zs, z0, z1]
  refine sF rfl ?_
  refine wM (v := .bool false) rfl rfl ?_
  simp only [Act.put, zs, z0, z1]
  refine s_do (by rfl) ?_
  refine wM (v := .int .i64 0) rfl rfl ?_
  simp only [Act.put, zs, z0, z1]
  refine s_do (by rfl) ?_
  refine wp_neE rfl rfl ?_
  simp only [Act.put, zs, z0, z1]
  refine sF rfl ?_
  refine wp_pickF (v := .bool false) rfl rfl rfl ?_
  simp only [Act.put, zs, z0, z1]
  refine sF rfl ?_
  refine wM (v := .bool false) rfl rfl ?_
  simp only [Act.put, zs, z0, z1]
  refine s_do (by rfl) ?_
  refine wM (v := .int .i64 0) rfl rfl ?_
  simp only [Act.put, zs, z0, z1]
  refine s_do (by rfl) ?_
  refine wp_neE rfl rfl ?_
  simp only [Act.put, zs, z0, z1]
  refine sF rfl ?_
  refine wp_pickF (v := .bool false) rfl rfl rfl ?_
  simp only [Act.put, zs, z0, z1]
  refine sF rfl ?_
  refine wM (v := .bool false) rfl rfl ?_
  simp only [Act.put, zs, z0, z1]
  refine s_do (by rfl) ?_
  refine wM (v := .bool true) rfl rfl ?_
  simp only [Act.put, zs, z0, z1]
  refine s_do (by rfl) ?_
  refine wp_notT rfl rfl ?_
  simp only [Act.put, zs, z0, z1]
  refine s_do (by rfl) ?_
  refine wM (v := .bool false) rfl rfl ?_
  simp only [Act.put, zs, z0, z1]
  refine s_skip (by rfl) ?_
  simp only [Act.put, zs, z0, z1]
  refine s_skip (by rfl) ?_
  simp only [Act.put, zs, z0, z1]
  refine s_do (by rfl) ?_
  refine wp_pickF (v := .bool false) rfl rfl rfl ?_
  simp only [Act.put, zs, z0, z1]
  refine sF rfl ?_
  refine wp_pickF (v := .bool false) rfl rfl rfl ?_
  simp only [Act.put, zs, z0, z1]
  refine s_end ?_
  go_upto_region 8 with fail
  refine rG ?_
  refine sF rfl ?_
  refine wp_loadB rfl rfl (hPN5_20) ?_
  simp only [Act.put, zs, z0, z1]
  refine sF rfl ?_
  refine wM (v := .int .u64 (iv y)) rfl rfl ?_
  simp only [Act.put, zs, z0, z1]
  refine sF rfl ?_
  refine wp_call2 rfl rfl rfl (by go_simp) ?_
  refine ((cH) _).mono ?_
  rintro e wk21 ⟨rfl, hk21⟩
  refine ⟨_, rfl, ?_⟩
  have hPN1_21 := (hPN1_20).gr hk21
  have hPN5_21 := (hPN5_20).gr hk21
  have hPN6_21 := (hPN6_20).gr hk21
  have hPN11_21 := (hPN11_20).gr hk21
  have hPN12_21 := (hPN12_20).gr hk21
  have hPN16_21 := (hPN16_20).gr hk21
  have hPN17_21 := (hPN17_20).gr hk21
  have hF_21 := (hF_20).then hk21
  simp only [Act.put, zs, z0, z1]
  refine sF rfl ?_
  refine wM (v := .bool true) rfl rfl ?_
  simp only [Act.put, zs, z0, z1]
  refine s_do (by rfl) ?_
  refine wM (v := .bool false) rfl rfl ?_
  simp only [Act.put, zs, z0, z1]
  refine s_do (by rfl) ?_
  refine wM (v := .bool false) rfl rfl ?_
  simp only [Act.put, zs, z0, z1]
  refine s_skip (by rfl) ?_
  simp only [Act.put, zs, z0, z1]
  refine s_do (by rfl) ?_
  refine wp_pickF (v := .bool false) rfl rfl rfl ?_
  simp only [Act.put, zs, z0, z1]
  refine s_do (by rfl) ?_
  refine wM (v := .bool false) rfl rfl ?_
  simp only [Act.put, zs, z0, z1]
  refine s_skip (by rfl) ?_
  simp only [Act.put, zs, z0, z1]
  refine s_skip (by rfl) ?_
  simp only [Act.put, zs, z0, z1]
  refine s_skip (by rfl) ?_
  simp only [Act.put, zs, z0, z1]
  refine s_do (by rfl) ?_
  refine wp_pickF (v := .bool false) rfl rfl rfl ?_
  simp only [Act.put, zs, z0, z1]
  refine s_do (by rfl) ?_
  refine wp_notF rfl rfl ?_
  simp only [Act.put, zs, z0, z1]
  refine sF rfl ?_
  refine wp_pickT (v := .bool true) rfl rfl rfl ?_
  simp only [Act.put, zs, z0, z1]
  refine sF rfl ?_
  refine wM (v := .bool true) rfl rfl ?_
  simp only [Act.put, zs, z0, z1]
  refine s_do (by rfl) ?_
  refine wM (v := .bool false) rfl rfl ?_
  simp only [Act.put, zs, z0, z1]
  refine s_do (by rfl) ?_
  refine wp_notF rfl rfl ?_
  simp only [Act.put, zs, z0, z1]
  refine s_do (by rfl) ?_
  refine wM (v := .bool true) rfl rfl ?_
  simp only [Act.put, zs, z0, z1]
  refine s_do (by rfl) ?_
  refine wM (v := .bool true) rfl rfl ?_
  simp only [Act.put, zs, z0, z1]
  refine s_do (by rfl) ?_
  refine wp_pickT (v := .bool true) rfl rfl rfl ?_
  simp only [Act.put, zs, z0, z1]
  refine s_do (by rfl) ?_
  refine wM (v := .bool true) rfl rfl ?_
  simp only [Act.put, zs, z0, z1]
  refine s_do (by rfl) ?_
  refine wp_loadB rfl rfl (hPN16_21) ?_
  simp only [Act.put, zs, z0, z1]
  refine s_do (by rfl) ?_
  refine wM (v := .int .u64 (iv y)) rfl rfl ?_
  simp only [Act.put, zs, z0, z1]
  refine s_do (by rfl) ?_
  refine wp_call2 rfl rfl rfl (by go_simp) ?_
  refine ((cHQ) _).mono ?_
  rintro e wk22 ⟨rfl, hk22⟩
  refine ⟨_, rfl, ?_⟩
  have hPN1_22 := (hPN1_21).gr hk22
  have hPN5_22 := (hPN5_21).gr hk22
  have hPN6_22 := (hPN6_21).gr hk22
  have hPN11_22 := (hPN11_21).gr hk22
  have hPN12_22 := (hPN12_21).gr hk22
  have hPN16_22 := (hPN16_21).gr hk22
  have hPN17_22 := (hPN17_21).gr hk22
  have hF_22 := (hF_21).then hk22
  simp only [Act.put, zs, z0, z1]
  refine s_do (by rfl) ?_
  refine wp_pickT (v := .bool true) rfl rfl rfl ?_
  simp only [Act.put, zs, z0, z1]
  refine s_do (by rfl) ?_
  refine wp_notT rfl rfl ?_
  simp only [Act.put, zs, z0, z1]
  refine sF rfl ?_
  refine wp_pickT (v := .bool false) rfl rfl rfl ?_
  simp only [Act.put, zs, z0, z1]
  refine s_end ?_
  go_upto_region 10 with fail
  refine rG ?_
  refine sF rfl ?_
  refine wM (v := .bool true) rfl rfl ?_
  simp only [Act.put, zs, z0, z1]
  refine sF rfl ?_
  refine wM (v := .bool true) rfl rfl ?_
  simp only [Act.put, zs, z0, z1]
  refine s_skip (by rfl) ?_
  simp only [Act.put, zs, z0, z1]
  refine s_skip (by rfl) ?_
  simp only [Act.put, zs, z0, z1]
  refine sF rfl ?_
  refine wp_pickT (v := .bool true) rfl rfl rfl ?_
  simp only [Act.put, zs, z0, z1]
  refine sF rfl ?_
  refine wM (v := .bool true) rfl rfl ?_
  simp only [Act.put, zs, z0, z1]
  refine s_do (by rfl) ?_
  refine wM (v := .bool true) rfl rfl ?_
  simp only [Act.put, zs, z0, z1]
  refine s_do (by rfl) ?_
  refine wM (v := .bool true) rfl rfl ?_
  simp only [Act.put, zs, z0, z1]
  refine s_skip (by rfl) ?_
  simp only [Act.put, zs, z0, z1]
  refine s_skip (by rfl) ?_
  simp only [Act.put, zs, z0, z1]
  refine s_do (by rfl) ?_
  refine wp_pickT (v := .bool true) rfl rfl rfl ?_
  simp only [Act.put, zs, z0, z1]
  refine sF rfl ?_
  refine wp_pickT (v := .bool true) rfl rfl rfl ?_
  simp only [Act.put, zs, z0, z1]
  refine sF rfl ?_
  refine wM (v := .bool true) rfl rfl ?_
  simp only [Act.put, zs, z0, z1]
  refine s_do (by rfl) ?_
  refine wp_call0 rfl (by go_simp) ?_
  refine ((k_works) _).mono ?_
  rintro e wk23 ⟨rfl, hk23⟩
  refine ⟨_, rfl, ?_⟩
  have hPN1_23 := (hPN1_22).gr hk23
  have hPN5_23 := (hPN5_22).gr hk23
  have hPN6_23 := (hPN6_22).gr hk23
  have hPN11_23 := (hPN11_22).gr hk23
  have hPN12_23 := (hPN12_22).gr hk23
  have hPN16_23 := (hPN16_22).gr hk23
  have hPN17_23 := (hPN17_22).gr hk23
  have hF_23 := (hF_22).then hk23
  simp only [Act.put, zs, z0, z1]
  refine sF rfl ?_
  refine wp_pickT (v := .bool true) rfl rfl rfl ?_
  simp only [Act.put, zs, z0, z1]
  refine sF rfl ?_
  refine wA (v := .bool true) rfl rfl ?_
  simp only [Act.put, zs, z0, z1]
  refine s_end ?_
  go_wp2
  go_ret
  exact ⟨rfl, (hF_23).gr0⟩
 ·have cT := cT0; have cF := cF0; have cA := cA0; have cH := cH0
  rw [e1] at cT; rw [e2] at cF; rw [es] at cA; rw [eh] at cH
  have cHP := hPy eh es
  clear cT0 cF0 cA0 cH0 K hPy hQy nP nQ eP1 eP2 eQ1 eQ2 e1 e2 eh es
  simp only [Act.put, zs, z0, z1]
  refine sF rfl ?_
  refine wp_call1 rfl rfl (by go_simp) ?_
  refine ((cS) _).mono ?_
  rintro e wk3 ⟨rfl, hk3⟩
  refine ⟨_, rfl, ?_⟩
  have hPN1_3 := (hPN1_2).gr hk3
  have hF_3 := (hF_2).then hk3
  simp only [Act.put, zs, z0, z1]
  refine sF rfl ?_
  refine wM (v := .int .u64 (iv nn)) rfl rfl ?_
  simp only [Act.put, zs, z0, z1]
  refine sF rfl ?_
  refine wp_call1 rfl rfl (by go_simp) ?_
  refine ((cC) _).mono ?_
  rintro e wk4 ⟨rfl, hk4⟩
  refine ⟨_, rfl, ?_⟩
  have hPN1_4 := (hPN1_3).gr hk4
  have hF_4 := (hF_3).then hk4
  simp only [Act.put, zs, z0, z1]
  refine sF rfl ?_
  refine wp_allocB rfl ?_
  intro ws5 hn5 hg5
  obtain ⟨PN5, hb5⟩ : ∃ b, wk4.heap.size = b := ⟨_, rfl⟩
  rw [hb5] at hn5 ⊢
  have hge5 := Nat.le_trans (hF_4).size (Nat.le_of_eq hb5)
  have hnePN1_PN5 : PN1 ≠ PN5 := nl (hPN1_4).lt hb5
  have hPN1_5 := (hPN1_4).gr hg5
  have hF_5 := (hF_4).then hg5
  simp only [Act.put, zs, z0, z1]
  refine sF rfl ?_
  refine wp_allocB rfl ?_
  intro ws6 hn6 hg6
  obtain ⟨PN6, hb6⟩ : ∃ b, ws5.heap.size = b := ⟨_, rfl⟩
  rw [hb6] at hn6 ⊢
  have hge6 := Nat.le_trans (hF_5).size (Nat.le_of_eq hb6)
  have hnePN1_PN6 : PN1 ≠ PN6 := nl (hPN1_5).lt hb6
  have hnePN5_PN6 : PN5 ≠ PN6 := nl (hn5).lt hb6
  have hPN1_6 := (hPN1_5).gr hg6
  have hPN5_6 := (hn5).gr hg6
  have hF_6 := (hF_5).then hg6
  simp only [Act.put, zs, z0, z1]
  refine sF rfl ?_
  refine wp_storeB rfl rfl rfl (hPN5_6) ?_
  intro ws7 hs7 gx7
  have hPN1_7 := (hPN1_6).grx gx7 hnePN1_PN5
  have hPN6_7 := (hn6).grx gx7 (Ne.symm hnePN5_PN6)
  have hF_7 := (hF_6).thenx gx7 (.inr hge5)
  change AtA ws7 PN5 (bv A) 33 at hs7
  simp only [Act.put, zs, z0, z1]
  refine sF rfl ?_
  refine wp_storeB rfl rfl rfl (hPN6_7) ?_
  intro ws8 hs8 gx8
  have hPN1_8 := (hPN1_7).grx gx8 hnePN1_PN6
  have hPN5_8 := (hs7).grx gx8 hnePN5_PN6
  have hF_8 := (hF_7).thenx gx8 (.inr hge6)
  change AtA ws8 PN6 (bv C) 33 at hs8
  simp only [Act.put, zs, z0, z1]
  refine s_end ?_
  go_upto_region 2 with fail
  refine rG ?_
  refine sF rfl ?_
  refine wM (v := .int .u8 c) rfl rfl ?_
  simp only [Act.put, zs, z0, z1]
  refine sF rfl ?_
  refine wp_call1 rfl rfl (by go_simp) ?_
  refine ((cd) _).mono ?_
  rintro e wk9 ⟨rfl, hk9⟩
  refine ⟨_, rfl, ?_⟩
  have hPN1_9 := (hPN1_8).gr hk9
  have hPN5_9 := (hPN5_8).gr hk9
  have hPN6_9 := (hs8).gr hk9
  have hF_9 := (hF_8).then hk9
  simp only [Act.put, zs, z0, z1]
  refine sF rfl ?_
  refine wA (v := .int .u8 d) rfl rfl ?_
  simp only [Act.put, zs, z0, z1]
  refine s_end ?_
  go_upto_region 3 with fail
  refine rG ?_
  refine sF rfl ?_
  refine wM (v := .int .u8 d) rfl rfl ?_
  simp only [Act.put, zs, z0, z1]
  refine sF rfl ?_
  refine wM (v := .bool wd) rfl rfl ?_
  simp only [Act.put, zs, z0, z1]
  refine sF rfl ?_
  refine wp_loadB rfl rfl (hPN5_9) ?_
  simp only [Act.put, zs, z0, z1]
  refine sF rfl ?_
  refine wp_loadB rfl rfl (hPN6_9) ?_
  simp only [Act.put, zs, z0, z1]
  refine sF rfl ?_
  refine wp_call5 rfl rfl rfl rfl rfl rfl (by go_simp) ?_
  refine ((cT) _).mono ?_
  rintro e wk10 ⟨rfl, hk10⟩
  refine ⟨_, rfl, ?_⟩
  have hPN1_10 := (hPN1_9).gr hk10
  have hPN5_10 := (hPN5_9).gr hk10
  have hPN6_10 := (hPN6_9).gr hk10
  have hF_10 := (hF_9).then hk10
  simp only [Act.put, zs, z0, z1]
  refine sF rfl ?_
  refine wM (v := .tuple #[.agg (bv P1), .agg (bv P2), .bool true, .int .i64 0]) rfl rfl ?_
  simp only [Act.put, zs, z0, z1]
  refine sF rfl ?_
  refine wp_extract (v := .agg (bv P1)) rfl rfl rfl ?_
  simp only [Act.put, zs, z0, z1]
  refine sF rfl ?_
  refine wp_extract (v := .agg (bv P2)) rfl rfl rfl ?_
  simp only [Act.put, zs, z0, z1]
  refine sF rfl ?_
  refine wp_extract (v := .bool true) rfl rfl rfl ?_
  simp only [Act.put, zs, z0, z1]
  refine sF rfl ?_
  refine wp_extract (v := .int .i64 0) rfl rfl rfl ?_
  simp only [Act.put, zs, z0, z1]
  refine sF rfl ?_
  refine wp_allocB rfl ?_
  intro ws11 hn11 hg11
  obtain ⟨PN11, hb11⟩ : ∃ b, wk10.heap.size = b := ⟨_, rfl⟩
  rw [hb11] at hn11 ⊢
  have hge11 := Nat.le_trans (hF_10).size (Nat.le_of_eq hb11)
  have hnePN1_PN11 : PN1 ≠ PN11 := nl (hPN1_10).lt hb11
  have hnePN5_PN11 : PN5 ≠ PN11 := nl (hPN5_10).lt hb11
  have hnePN6_PN11 : PN6 ≠ PN11 := nl (hPN6_10).lt hb11
  have hPN1_11 := (hPN1_10).gr hg11
  have hPN5_11 := (hPN5_10).gr hg11
  have hPN6_11 := (hPN6_10).gr hg11
  have hF_11 := (hF_10).then hg11
  simp only [Act.put, zs, z0, z1]
  refine sF rfl ?_
  refine wp_allocB rfl ?_
  intro ws12 hn12 hg12
  obtain ⟨PN12, hb12⟩ : ∃ b, ws11.heap.size = b := ⟨_, rfl⟩
  rw [hb12] at hn12 ⊢
  have hge12 := Nat.le_trans (hF_11).size (Nat.le_of_eq hb12)
  have hnePN1_PN12 : PN1 ≠ PN12 := nl (hPN1_11).lt hb12
  have hnePN5_PN12 : PN5 ≠ PN12 := nl (hPN5_11).lt hb12
  have hnePN6_PN12 : PN6 ≠ PN12 := nl (hPN6_11).lt hb12
  have hnePN11_PN12 : PN11 ≠ PN12 := nl (hn11).lt hb12
  have hPN1_12 := (hPN1_11).gr hg12
  have hPN5_12 := (hPN5_11).gr hg12
  have hPN6_12 := (hPN6_11).gr hg12
  have hPN11_12 := (hn11).gr hg12
  have hF_12 := (hF_11).then hg12
  simp only [Act.put, zs, z0, z1]
  refine sF rfl ?_
  refine wp_storeB rfl rfl rfl (hPN11_12) ?_
  intro ws13 hs13 gx13
  have hPN1_13 := (hPN1_12).grx gx13 hnePN1_PN11
  have hPN5_13 := (hPN5_12).grx gx13 hnePN5_PN11
  have hPN6_13 := (hPN6_12).grx gx13 hnePN6_PN11
  have hPN12_13 := (hn12).grx gx13 (Ne.symm hnePN11_PN12)
  have hF_13 := (hF_12).thenx gx13 (.inr hge11)
  change AtA ws13 PN11 (bv P1) 33 at hs13
  simp only [Act.put, zs, z0, z1]
  refine sF rfl ?_
  refine wp_storeB rfl rfl rfl (hPN12_13) ?_
  intro ws14 hs14 gx14
  have hPN1_14 := (hPN1_13).grx gx14 hnePN1_PN12
  have hPN5_14 := (hPN5_13).grx gx14 hnePN5_PN12
  have hPN6_14 := (hPN6_13).grx gx14 hnePN6_PN12
  have hPN11_14 := (hs13).grx gx14 hnePN11_PN12
  have hF_14 := (hF_13).thenx gx14 (.inr hge12)
  change AtA ws14 PN12 (bv P2) 33 at hs14
  simp only [Act.put, zs, z0, z1]
  refine sF rfl ?_
  refine wA (v := .bool true) rfl rfl ?_
  simp only [Act.put, zs, z0, z1]
  refine sF rfl ?_
  refine wA (v := .int .i64 0) rfl rfl ?_
  simp only [Act.put, zs, z0, z1]
  refine s_end ?_
  go_upto_region 4 with fail
  refine rG ?_
  refine sF rfl ?_
  refine wM (v := .int .u8 d) rfl rfl ?_
  simp only [Act.put, zs, z0, z1]
  refine sF rfl ?_
  refine wM (v := .bool wd) rfl rfl ?_
  simp only [Act.put, zs, z0, z1]
  refine sF rfl ?_
  refine wp_loadB rfl rfl (hPN5_14) ?_
  simp only [Act.put, zs, z0, z1]
  refine sF rfl ?_
  refine wp_loadB rfl rfl (hPN6_14) ?_
  simp only [Act.put, zs, z0, z1]
  refine sF rfl ?_
  refine wp_call5 rfl rfl rfl rfl rfl rfl (by go_simp) ?_
  refine ((cF) _).mono ?_
  rintro e wk15 ⟨rfl, hk15⟩
  refine ⟨_, rfl, ?_⟩
  have hPN1_15 := (hPN1_14).gr hk15
  have hPN5_15 := (hPN5_14).gr hk15
  have hPN6_15 := (hPN6_14).gr hk15
  have hPN11_15 := (hPN11_14).gr hk15
  have hPN12_15 := (hs14).gr hk15
  have hF_15 := (hF_14).then hk15
  simp only [Act.put, zs, z0, z1]
  refine sF rfl ?_
  refine wM (v := .tuple #[.agg (bv Q1), .agg (bv Q2), .bool true, .int .i64 0]) rfl rfl ?_
  simp only [Act.put, zs, z0, z1]
  refine sF rfl ?_
  refine wp_extract (v := .agg (bv Q1)) rfl rfl rfl ?_
  simp only [Act.put, zs, z0, z1]
  refine sF rfl ?_
  refine wp_extract (v := .agg (bv Q2)) rfl rfl rfl ?_
  simp only [Act.put, zs, z0, z1]
  refine sF rfl ?_
  refine wp_extract (v := .bool true) rfl rfl rfl ?_
  simp only [Act.put, zs, z0, z1]
  refine sF rfl ?_
  refine wp_extract (v := .int .i64 0) rfl rfl rfl ?_
  simp only [Act.put, zs, z0, z1]
  refine sF rfl ?_
  refine wp_allocB rfl ?_
  intro ws16 hn16 hg16
  obtain ⟨PN16, hb16⟩ : ∃ b, wk15.heap.size = b := ⟨_, rfl⟩
  rw [hb16] at hn16 ⊢
  have hge16 := Nat.le_trans (hF_15).size (Nat.le_of_eq hb16)
  have hnePN1_PN16 : PN1 ≠ PN16 := nl (hPN1_15).lt hb16
  have hnePN5_PN16 : PN5 ≠ PN16 := nl (hPN5_15).lt hb16
  have hnePN6_PN16 : PN6 ≠ PN16 := nl (hPN6_15).lt hb16
  have hnePN11_PN16 : PN11 ≠ PN16 := nl (hPN11_15).lt hb16
  have hnePN12_PN16 : PN12 ≠ PN16 := nl (hPN12_15).lt hb16
  have hPN1_16 := (hPN1_15).gr hg16
  have hPN5_16 := (hPN5_15).gr hg16
  have hPN6_16 := (hPN6_15).gr hg16
  have hPN11_16 := (hPN11_15).gr hg16
  have hPN12_16 := (hPN12_15).gr hg16
  have hF_16 := (hF_15).then hg16
  simp only [Act.put, zs, z0, z1]
  refine sF rfl ?_
  refine wp_allocB rfl ?_
  intro ws17 hn17 hg17
  obtain ⟨PN17, hb17⟩ : ∃ b, ws16.heap.size = b := ⟨_, rfl⟩
  rw [hb17] at hn17 ⊢
  have hge17 := Nat.le_trans (hF_16).size (Nat.le_of_eq hb17)
  have hnePN1_PN17 : PN1 ≠ PN17 := nl (hPN1_16).lt hb17
  have hnePN5_PN17 : PN5 ≠ PN17 := nl (hPN5_16).lt hb17
  have hnePN6_PN17 : PN6 ≠ PN17 := nl (hPN6_16).lt hb17
  have hnePN11_PN17 : PN11 ≠ PN17 := nl (hPN11_16).lt hb17
  have hnePN12_PN17 : PN12 ≠ PN17 := nl (hPN12_16).lt hb17
  have hnePN16_PN17 : PN16 ≠ PN17 := nl (hn16).lt hb17
  have hPN1_17 := (hPN1_16).gr hg17
  have hPN5_17 := (hPN5_16).gr hg17
  have hPN6_17 := (hPN6_16).gr hg17
  have hPN11_17 := (hPN11_16).gr hg17
  have hPN12_17 := (hPN12_16).gr hg17
  have hPN16_17 := (hn16).gr hg17
  have hF_17 := (hF_16).then hg17
  simp only [Act.put, zs, z0, z1]
  refine sF rfl ?_
  refine wp_storeB rfl rfl rfl (hPN16_17) ?_
  intro ws18 hs18 gx18
  have hPN1_18 := (hPN1_17).grx gx18 hnePN1_PN16
  have hPN5_18 := (hPN5_17).grx gx18 hnePN5_PN16
  have hPN6_18 := (hPN6_17).grx gx18 hnePN6_PN16
  have hPN11_18 := (hPN11_17).grx gx18 hnePN11_PN16
  have hPN12_18 := (hPN12_17).grx gx18 hnePN12_PN16
  have hPN17_18 := (hn17).grx gx18 (Ne.symm hnePN16_PN17)
  have hF_18 := (hF_17).thenx gx18 (.inr hge16)
  change AtA ws18 PN16 (bv Q1) 33 at hs18
  simp only [Act.put, zs, z0, z1]
  refine sF rfl ?_
  refine wp_storeB rfl rfl rfl (hPN17_18) ?_
  intro ws19 hs19 gx19
  have hPN1_19 := (hPN1_18).grx gx19 hnePN1_PN17
  have hPN5_19 := (hPN5_18).grx gx19 hnePN5_PN17
  have hPN6_19 := (hPN6_18).grx gx19 hnePN6_PN17
  have hPN11_19 := (hPN11_18).grx gx19 hnePN11_PN17
  have hPN12_19 := (hPN12_18).grx gx19 hnePN12_PN17
  have hPN16_19 := (hs18).grx gx19 hnePN16_PN17
  have hF_19 := (hF_18).thenx gx19 (.inr hge17)
  change AtA ws19 PN17 (bv Q2) 33 at hs19
  simp only [Act.put, zs, z0, z1]
  refine sF rfl ?_
  refine wA (v := .bool true) rfl rfl ?_
  simp only [Act.put, zs, z0, z1]
  refine sF rfl ?_
  refine wA (v := .int .i64 0) rfl rfl ?_
  simp only [Act.put, zs, z0, z1]
  refine s_end ?_
  go_upto_region 5 with fail
  refine rG ?_
  refine sF rfl ?_
  refine wM (v := .int .u8 d) rfl rfl ?_
  simp only [Act.put, zs, z0, z1]
  refine sF rfl ?_
  refine wM (v := .bool wd) rfl rfl ?_
  simp only [Act.put, zs, z0, z1]
  refine sF rfl ?_
  refine wM (v := .int .u64 (iv y)) rfl rfl ?_
  simp only [Act.put, zs, z0, z1]
  refine sF rfl ?_
  refine wM (v := .int .u64 (iv nn)) rfl rfl ?_
  simp only [Act.put, zs, z0, z1]
  refine sF rfl ?_
  refine wp_call4 rfl rfl rfl rfl rfl (by go_simp) ?_
  refine ((cA) _).mono ?_
  rintro e wk20 ⟨rfl, hk20⟩
  refine ⟨_, rfl, ?_⟩
  have hPN1_20 := (hPN1_19).gr hk20
  have hPN5_20 := (hPN5_19).gr hk20
  have hPN6_20 := (hPN6_19).gr hk20
  have hPN11_20 := (hPN11_19).gr hk20
  have hPN12_20 := (hPN12_19).gr hk20
  have hPN16_20 := (hPN16_19).gr hk20
  have hPN17_20 := (hs19).gr hk20
  have hF_20 := (hF_19).then hk20
  simp only [Act.put, zs, z0, z1]
  refine sF rfl ?_
  refine wM (v := .tuple #[.bool true, .int .i64 0]) rfl rfl ?_
  simp only [Act.put, zs, z0, z1]
  refine sF rfl ?_
  refine wp_extract (v := .bool true) rfl rfl rfl ?_
  simp only [Act.put, zs, z0, z1]
  refine sF rfl ?_
  refine wp_extract (v := .int .i64 0) rfl rfl rfl ?_
  simp only [Act.put, zs, z0, z1]
  refine sF rfl ?_
  refine wA (v := .bool true) rfl rfl ?_
  simp only [Act.put, zs, z0, z1]
  refine sF rfl ?_
  refine wA (v := .int .i64 0) rfl rfl ?_
  simp only [Act.put, zs, z0, z1]
  refine s_end ?_
  go_upto_region 6 with fail
  refine rG ?_
  refine sF rfl ?_
  refine wM (v := .int .i64 0) rfl rfl ?_
  simp only [Act.put, zs, z0, z1]
  refine sF rfl ?_
  refine wp_neE rfl rfl ?_
  simp only [Act.put, zs, z0, z1]
  refine sF rfl ?_
  refine wM (v := .bool false) rfl rfl ?_
  simp only [Act.put, zs, z0, z1]
  refine s_do (by rfl) ?_
  refine wM (v := .int .i64 0) rfl rfl ?_
  simp only [Act.put, zs, z0, z1]
  refine s_do (by rfl) ?_
  refine wp_neE rfl rfl ?_
  simp only [Act.put, zs, z0, z1]
  refine sF rfl ?_
  refine wp_pickF (v := .bool false) rfl rfl rfl ?_
  simp only [Act.put, zs, z0, z1]
  refine sF rfl ?_
  refine wM (v := .bool false) rfl rfl ?_
  simp only [Act.put, zs, z0, z1]
  refine s_do (by rfl) ?_
  refine wM (v := .int .i64 0) rfl rfl ?_
  simp only [Act.put, zs, z0, z1]
  refine s_do (by rfl) ?_
  refine wp_neE rfl rfl ?_
  simp only [Act.put, zs, z0, z1]
  refine sF rfl ?_
  refine wp_pickF (v := .bool false) rfl rfl rfl ?_
  simp only [Act.put, zs, z0, z1]
  refine sF rfl ?_
  refine wM (v := .bool false) rfl rfl ?_
  simp only [Act.put, zs, z0, z1]
  refine s_do (by rfl) ?_
  refine wM (v := .bool true) rfl rfl ?_
  simp only [Act.put, zs, z0, z1]
  refine s_do (by rfl) ?_
  refine wp_notT rfl rfl ?_
  simp only [Act.put, zs, z0, z1]
  refine s_do (by rfl) ?_
  refine wM (v := .bool false) rfl rfl ?_
  simp only [Act.put, zs, z0, z1]
  refine s_skip (by rfl) ?_
  simp only [Act.put, zs, z0, z1]
  refine s_skip (by rfl) ?_
  simp only [Act.put, zs, z0, z1]
  refine s_do (by rfl) ?_
  refine wp_pickF (v := .bool false) rfl rfl rfl ?_
  simp only [Act.put, zs, z0, z1]
  refine sF rfl ?_
  refine wp_pickF (v := .bool false) rfl rfl rfl ?_
  simp only [Act.put, zs, z0, z1]
  refine s_end ?_
  go_upto_region 8 with fail
  refine rG ?_
  refine sF rfl ?_
  refine wp_loadB rfl rfl (hPN5_20) ?_
  simp only [Act.put, zs, z0, z1]
  refine sF rfl ?_
  refine wM (v := .int .u64 (iv y)) rfl rfl ?_
  simp only [Act.put, zs, z0, z1]
  refine sF rfl ?_
  refine wp_call2 rfl rfl rfl (by go_simp) ?_
  refine ((cH) _).mono ?_
  rintro e wk21 ⟨rfl, hk21⟩
  refine ⟨_, rfl, ?_⟩
  have hPN1_21 := (hPN1_20).gr hk21
  have hPN5_21 := (hPN5_20).gr hk21
  have hPN6_21 := (hPN6_20).gr hk21
  have hPN11_21 := (hPN11_20).gr hk21
  have hPN12_21 := (hPN12_20).gr hk21
  have hPN16_21 := (hPN16_20).gr hk21
  have hPN17_21 := (hPN17_20).gr hk21
  have hF_21 := (hF_20).then hk21
  simp only [Act.put, zs, z0, z1]
  refine sF rfl ?_
  refine wM (v := .bool true) rfl rfl ?_
  simp only [Act.put, zs, z0, z1]
  refine s_do (by rfl) ?_
  refine wM (v := .bool true) rfl rfl ?_
  simp only [Act.put, zs, z0, z1]
  refine s_do (by rfl) ?_
  refine wM (v := .bool true) rfl rfl ?_
  simp only [Act.put, zs, z0, z1]
  refine s_do (by rfl) ?_
  refine wM (v := .bool true) rfl rfl ?_
  simp only [Act.put, zs, z0, z1]
  refine s_do (by rfl) ?_
  refine wp_pickT (v := .bool true) rfl rfl rfl ?_
  simp only [Act.put, zs, z0, z1]
  refine s_do (by rfl) ?_
  refine wM (v := .bool true) rfl rfl ?_
  simp only [Act.put, zs, z0, z1]
  refine s_do (by rfl) ?_
  refine wp_loadB rfl rfl (hPN11_21) ?_
  simp only [Act.put, zs, z0, z1]
  refine s_do (by rfl) ?_
  refine wM (v := .int .u64 (iv y)) rfl rfl ?_
  simp only [Act.put, zs, z0, z1]
  refine s_do (by rfl) ?_
  refine wp_call2 rfl rfl rfl (by go_simp) ?_
  refine ((cHP) _).mono ?_
  rintro e wk22 ⟨rfl, hk22⟩
  refine ⟨_, rfl, ?_⟩
  have hPN1_22 := (hPN1_21).gr hk22
  have hPN5_22 := (hPN5_21).gr hk22
  have hPN6_22 := (hPN6_21).gr hk22
  have hPN11_22 := (hPN11_21).gr hk22
  have hPN12_22 := (hPN12_21).gr hk22
  have hPN16_22 := (hPN16_21).gr hk22
  have hPN17_22 := (hPN17_21).gr hk22
  have hF_22 := (hF_21).then hk22
  simp only [Act.put, zs, z0, z1]
  refine s_do (by rfl) ?_
  refine wp_pickT (v := .bool true) rfl rfl rfl ?_
  simp only [Act.put, zs, z0, z1]
  refine s_do (by rfl) ?_
  refine wp_notT rfl rfl ?_
  simp only [Act.put, zs, z0, z1]
  refine sF rfl ?_
  refine wp_pickT (v := .bool false) rfl rfl rfl ?_
  simp only [Act.put, zs, z0, z1]
  refine sF rfl ?_
  refine wM (v := .bool false) rfl rfl ?_
  simp only [Act.put, zs, z0, z1]
  refine s_skip (by rfl) ?_
  simp only [Act.put, zs, z0, z1]
  refine s_skip (by rfl) ?_
  simp only [Act.put, zs, z0, z1]
  refine s_skip (by rfl) ?_
  simp only [Act.put, zs, z0, z1]
  refine s_skip (by rfl) ?_
  simp only [Act.put, zs, z0, z1]
  refine s_skip (by rfl) ?_
  simp only [Act.put, zs, z0, z1]
  refine s_skip (by rfl) ?_
  simp only [Act.put, zs, z0, z1]
  refine s_skip (by rfl) ?_
  simp only [Act.put, zs, z0, z1]
  refine s_skip (by rfl) ?_
  simp only [Act.put, zs, z0, z1]
  refine s_skip (by rfl) ?_
  simp only [Act.put, zs, z0, z1]
  refine s_skip (by rfl) ?_
  simp only [Act.put, zs, z0, z1]
  refine s_skip (by rfl) ?_
  simp only [Act.put, zs, z0, z1]
  refine sF rfl ?_
  refine wp_pickF (v := .bool false) rfl rfl rfl ?_
  simp only [Act.put, zs, z0, z1]
  refine s_end ?_
  go_upto_region 10 with fail
  refine rG ?_
  refine sF rfl ?_
  refine wM (v := .bool true) rfl rfl ?_
  simp only [Act.put, zs, z0, z1]
  refine sF rfl ?_
  refine wM (v := .bool true) rfl rfl ?_
  simp only [Act.put, zs, z0, z1]
  refine s_skip (by rfl) ?_
  simp only [Act.put, zs, z0, z1]
  refine s_skip (by rfl) ?_
  simp only [Act.put, zs, z0, z1]
  refine sF rfl ?_
  refine wp_pickT (v := .bool true) rfl rfl rfl ?_
  simp only [Act.put, zs, z0, z1]
  refine sF rfl ?_
  refine wM (v := .bool true) rfl rfl ?_
  simp only [Act.put, zs, z0, z1]
  refine s_do (by rfl) ?_
  refine wM (v := .bool true) rfl rfl ?_
  simp only [Act.put, zs, z0, z1]
  refine s_do (by rfl) ?_
  refine wM (v := .bool true) rfl rfl ?_
  simp only [Act.put, zs, z0, z1]
  refine s_skip (by rfl) ?_
  simp only [Act.put, zs, z0, z1]
  refine s_skip (by rfl) ?_
  simp only [Act.put, zs, z0, z1]
  refine s_do (by rfl) ?_
  refine wp_pickT (v := .bool true) rfl rfl rfl ?_
  simp only [Act.put, zs, z0, z1]
  refine sF rfl ?_
  refine wp_pickT (v := .bool true) rfl rfl rfl ?_
  simp only [Act.put, zs, z0, z1]
  refine sF rfl ?_
  refine wM (v := .bool true) rfl rfl ?_
  simp only [Act.put, zs, z0, z1]
  refine s_do (by rfl) ?_
  refine wp_call0 rfl (by go_simp) ?_
  refine ((k_works) _).mono ?_
  rintro e wk23 ⟨rfl, hk23⟩
  refine ⟨_, rfl, ?_⟩
  have hPN1_23 := (hPN1_22).gr hk23
  have hPN5_23 := (hPN5_22).gr hk23
  have hPN6_23 := (hPN6_22).gr hk23
  have hPN11_23 := (hPN11_22).gr hk23
  have hPN12_23 := (hPN12_22).gr hk23
  have hPN16_23 := (hPN16_22).gr hk23
  have hPN17_23 := (hPN17_22).gr hk23
  have hF_23 := (hF_22).then hk23
  simp only [Act.put, zs, z0, z1]
  refine sF rfl ?_
  refine wp_pickT (v := .bool true) rfl rfl rfl ?_
  simp only [Act.put, zs, z0, z1]
  refine sF rfl ?_
  refine wA (v := .bool true) rfl rfl ?_
  simp only [Act.put, zs, z0, z1]
  refine s_end ?_
  go_wp2
  go_ret
  exact ⟨rfl, (hF_23).gr0⟩
end Go.Proofs.YtcbcijibgpaipabGreat
