/- Towards the statements of package cond (layer 6): its parts that call others. -/
import Derived.Test.YtcbcijibgpaipaaGreatW3
import Derived.Test.YtcbcijibgpaipaaGreatCL
import Derived.Test.YtcbcijibgpaipaaGreatCK
import Derived.Deep.DeepCutAuto
namespace Go.Proofs.YtcbcijibgpaipaaGreat
open Go.ChangeShapes Go.WideShapes Go.ChangeAt Go.RowKit
open Tn (iv)
set_option linter.unusedVariables false
set_option linter.unusedSimpArgs false
set_option maxRecDepth 20000

theorem k_noth (w : World) : Calls Tryz.prog 47 #[] w fun e w' => e = .returned (.agg (bv nothingM)) ∧ Gr w w' := (nothing_any w).mono fun e w' h => ⟨h.1, h.2 ▸ Gr.alloc (Gr.refl w) _ _⟩
theorem sgl (z : Int) : -2147483648 ≤ sg z ∧ sg z ≤ 2147483647 := by
  unfold sg
  omega
theorem w64l (z : Int) : -9223372036854775808 ≤ wrap64 z ∧ wrap64 z ≤ 9223372036854775807 := by
  unfold wrap64
  omega
theorem good_const (z : BitVec 64) : Good (constM z) := by
  have hi := iv_range z
  have hs := sgl (iv z)
  have hw := w64l (iv z)
  refine ⟨?_, hi.1, Int.le_refl _, hi.2, hw.1, Int.le_refl _, hw.2, ?_, Int.le_refl _, ?_, hs.1, Int.le_refl _, hs.2⟩
  · show z &&& 0#64 = 0#64
    ext i hi
    simp
  · show 0 ≤ iv z % 4294967296
    omega
  · show iv z % 4294967296 ≤ 4294967295
    omega
set_option maxHeartbeats 16000000 in
theorem k_meet_no (a b : Bd) (ga : nnB a = false) (gb : nnB b = false) (hx : Tn.meetX a.tv a.tm b.tv b.tm = false) (w : World) : Calls Tryz.prog 21 #[.agg (bv a), .agg (bv b)] w fun e w' => e = .returned (.agg (bv nothingM)) ∧ Gr w w' := by
  go_enter Tryz.func21, Tryz.ntmps21
  go_upto_region 0 with fail
  refine rG ?_
  refine sF rfl ?_
  refine wp_bx_B rfl rfl ?_
  intro ws1 hn1 hg1
  obtain ⟨PN1, hb1⟩ : ∃ b, w.heap.size = b := ⟨_, rfl⟩
  rw [hb1] at hn1 ⊢
  have hge1 := Nat.le_trans (GrL.refl [] w).size (Nat.le_of_eq hb1)
  have hF_1 := (GrL.refl [] w).then hg1
  simp only [Act.put, zs, z0, z1]
  refine sF rfl ?_
  refine wp_bx_B rfl rfl ?_
  intro ws2 hn2 hg2
  obtain ⟨PN2, hb2⟩ : ∃ b, ws1.heap.size = b := ⟨_, rfl⟩
  rw [hb2] at hn2 ⊢
  have hge2 := Nat.le_trans (hF_1).size (Nat.le_of_eq hb2)
  have hnePN1_PN2 : PN1 ≠ PN2 := nl (hn1).lt hb2
  have hPN1_2 := (hn1).gr hg2
  have hF_2 := (hF_1).then hg2
  simp only [Act.put, zs, z0, z1]
  refine sF rfl ?_
  refine wp_allocB rfl ?_
  intro ws3 hn3 hg3
  obtain ⟨PN3, hb3⟩ : ∃ b, ws2.heap.size = b := ⟨_, rfl⟩
  rw [hb3] at hn3 ⊢
  have hge3 := Nat.le_trans (hF_2).size (Nat.le_of_eq hb3)
  have hnePN1_PN3 : PN1 ≠ PN3 := nl (hPN1_2).lt hb3
  have hnePN2_PN3 : PN2 ≠ PN3 := nl (hn2).lt hb3
  have hPN1_3 := (hPN1_2).gr hg3
  have hPN2_3 := (hn2).gr hg3
  have hF_3 := (hF_2).then hg3
  simp only [Act.put, zs, z0, z1]
  refine s_end ?_
  go_upto_region 1 with fail
  refine rG ?_
  refine sF rfl ?_
  refine wp_fa0 rfl rfl ?_
  simp only [Act.put, zs, z0, z1]
  refine sF rfl ?_
  refine wp_pT (v0 := .int .u64 (iv a.tv)) (v1 := .int .u64 (iv a.tm)) rfl rfl (hPN1_3) rfl rfl ?_
  simp only [Act.put, zs, z0, z1]
  refine sF rfl ?_
  refine wp_fa0 rfl rfl ?_
  simp only [Act.put, zs, z0, z1]
  refine sF rfl ?_
  refine wp_pT (v0 := .int .u64 (iv b.tv)) (v1 := .int .u64 (iv b.tm)) rfl rfl (hPN2_3) rfl rfl ?_
  simp only [Act.put, zs, z0, z1]
  refine sF rfl ?_
  refine wp_call2 rfl rfl rfl (by go_simp) ?_
  refine ((fun w => cv (Tn.meet_any a.tv a.tm b.tv b.tm w)) _).mono ?_
  rintro e wk4 ⟨he4, hk4⟩
  obtain rfl : e = .returned (.tuple #[.agg #[.int .u64 (iv (Tn.mtV a.tv a.tm b.tv b.tm)), .int .u64 (iv (Tn.mtM a.tv a.tm b.tv b.tm))], .bool false]) := he4.trans (by rw [hx])
  clear he4
  refine ⟨_, rfl, ?_⟩
  have hPN1_4 := (hPN1_3).gr hk4
  have hPN2_4 := (hPN2_3).gr hk4
  have hPN3_4 := (hn3).gr hk4
  have hF_4 := (hF_3).then hk4
  simp only [Act.put, zs, z0, z1]
  refine sF rfl ?_
  refine wM (v := .tuple #[.agg #[.int .u64 (iv (Tn.mtV a.tv a.tm b.tv b.tm)), .int .u64 (iv (Tn.mtM a.tv a.tm b.tv b.tm))], .bool false]) rfl rfl ?_
  simp only [Act.put, zs, z0, z1]
  refine sF rfl ?_
  refine wp_extract (v := .agg #[.int .u64 (iv (Tn.mtV a.tv a.tm b.tv b.tm)), .int .u64 (iv (Tn.mtM a.tv a.tm b.tv b.tm))]) rfl rfl rfl ?_
  simp only [Act.put, zs, z0, z1]
  refine sF rfl ?_
  refine wp_extract (v := .bool false) rfl rfl rfl ?_
  simp only [Act.put, zs, z0, z1]
  refine sF rfl ?_
  refine wp_allocT rfl ?_
  intro ws5 hn5 hg5
  obtain ⟨PN5, hb5⟩ : ∃ b, wk4.heap.size = b := ⟨_, rfl⟩
  rw [hb5] at hn5 ⊢
  have hge5 := Nat.le_trans (hF_4).size (Nat.le_of_eq hb5)
  have hnePN1_PN5 : PN1 ≠ PN5 := nl (hPN1_4).lt hb5
  have hnePN2_PN5 : PN2 ≠ PN5 := nl (hPN2_4).lt hb5
  have hnePN3_PN5 : PN3 ≠ PN5 := nl (hPN3_4).lt hb5
  have hPN1_5 := (hPN1_4).gr hg5
  have hPN2_5 := (hPN2_4).gr hg5
  have hPN3_5 := (hPN3_4).gr hg5
  have hF_5 := (hF_4).then hg5
  simp only [Act.put, zs, z0, z1]
  refine sF rfl ?_
  refine wp_storeT rfl rfl rfl (hn5) ?_
  intro ws6 hs6 gx6
  have hPN1_6 := (hPN1_5).grx gx6 hnePN1_PN5
  have hPN2_6 := (hPN2_5).grx gx6 hnePN2_PN5
  have hPN3_6 := (hPN3_5).grx gx6 hnePN3_PN5
  have hF_6 := (hF_5).thenx gx6 (.inr hge5)
  change AtA ws6 PN5 (#[.int .u64 (iv (Tn.mtV a.tv a.tm b.tv b.tm)), .int .u64 (iv (Tn.mtM a.tv a.tm b.tv b.tm))]) 24 at hs6
  simp only [Act.put, zs, z0, z1]
  refine sF rfl ?_
  refine wA (v := .bool false) rfl rfl ?_
  simp only [Act.put, zs, z0, z1]
  refine s_end ?_
  go_upto_region 2 with fail
  refine rG ?_
  refine sF rfl ?_
  refine wp_loadB rfl rfl (hPN1_6) ?_
  simp only [Act.put, zs, z0, z1]
  refine sF rfl ?_
  refine wp_call1 rfl rfl (by go_simp) ?_
  refine ((fun w => k_none a w) _).mono ?_
  rintro e wk7 ⟨he7, hk7⟩
  obtain rfl : e = .returned (.bool false) := he7.trans (by rw [ga])
  clear he7
  refine ⟨_, rfl, ?_⟩
  have hPN1_7 := (hPN1_6).gr hk7
  have hPN2_7 := (hPN2_6).gr hk7
  have hPN3_7 := (hPN3_6).gr hk7
  have hPN5_7 := (hs6).gr hk7
  have hF_7 := (hF_6).then hk7
  simp only [Act.put, zs, z0, z1]
  refine sF rfl ?_
  refine wM (v := .bool false) rfl rfl ?_
  simp only [Act.put, zs, z0, z1]
  refine s_do (by rfl) ?_
  refine wp_loadB rfl rfl (hPN2_7) ?_
  simp only [Act.put, zs, z0, z1]
  refine s_do (by rfl) ?_
  refine wp_call1 rfl rfl (by go_simp) ?_
  refine ((fun w => k_none b w) _).mono ?_
  rintro e wk8 ⟨he8, hk8⟩
  obtain rfl : e = .returned (.bool false) := he8.trans (by rw [gb])
  clear he8
  refine ⟨_, rfl, ?_⟩
  have hPN1_8 := (hPN1_7).gr hk8
  have hPN2_8 := (hPN2_7).gr hk8
  have hPN3_8 := (hPN3_7).gr hk8
  have hPN5_8 := (hPN5_7).gr hk8
  have hF_8 := (hF_7).then hk8
  simp only [Act.put, zs, z0, z1]
  refine sF rfl ?_
  refine wp_pickF (v := .bool false) rfl rfl rfl ?_
  simp only [Act.put, zs, z0, z1]
  refine sF rfl ?_
  refine wM (v := .bool false) rfl rfl ?_
  simp only [Act.put, zs, z0, z1]
  refine s_do (by rfl) ?_
  refine wM (v := .bool false) rfl rfl ?_
  simp only [Act.put, zs, z0, z1]
  refine s_do (by rfl) ?_
  refine wp_notF rfl rfl ?_
  simp only [Act.put, zs, z0, z1]
  refine sF rfl ?_
  refine wp_pickF (v := .bool true) rfl rfl rfl ?_
  simp only [Act.put, zs, z0, z1]
  refine s_end ?_
  go_upto_region 3 with fail
  refine rG ?_
  refine sF rfl ?_
  refine wp_call0 rfl (by go_simp) ?_
  refine ((fun w => k_noth w) _).mono ?_
  rintro e wk9 ⟨rfl, hk9⟩
  refine ⟨_, rfl, ?_⟩
  have hPN1_9 := (hPN1_8).gr hk9
  have hPN2_9 := (hPN2_8).gr hk9
  have hPN3_9 := (hPN3_8).gr hk9
  have hPN5_9 := (hPN5_8).gr hk9
  have hF_9 := (hF_8).then hk9
  simp only [Act.put, zs, z0, z1]
  refine sF rfl ?_
  refine wp_storeB rfl rfl rfl (hPN3_9) ?_
  intro ws10 hs10 gx10
  have hPN1_10 := (hPN1_9).grx gx10 hnePN1_PN3
  have hPN2_10 := (hPN2_9).grx gx10 hnePN2_PN3
  have hPN5_10 := (hPN5_9).grx gx10 (Ne.symm hnePN3_PN5)
  have hF_10 := (hF_9).thenx gx10 (.inr hge3)
  change AtA ws10 PN3 (bv nothingM) 30 at hs10
  simp only [Act.put, zs, z0, z1]
  refine s_end ?_
  obtain ⟨r0, r1, r2, r3, r4, r5, r6, r7, r8, r9⟩ := cells_bv (hs10)
  go_wp2
  refine bodyPost_ret (by simp [results, Tryz.results21, go_sem, r0, r1, r2, r3, r4, r5, r6, r7, r8, r9]; try rfl) rfl ?_
  exact ⟨rfl, (hF_10).gr0⟩
theorem k_meet2 (a b : Bd) (ga : Good a) (gb : Good b) (w : World) : Calls Tryz.prog 21 #[.agg (bv a), .agg (bv b)] w fun e w' => e = .returned (.agg (bv (meetM a b))) ∧ Gr w w' := by
  unfold meetM
  cases hx : Tn.meetX a.tv a.tm b.tv b.tm with
  | false =>
    rw [if_neg (by decide)]
    exact k_meet_no a b (nnB_of ga) (nnB_of gb) hx w
  | true =>
    rw [if_pos rfl]
    have g := meetP_rng ga gb
    exact meet_go a.tv a.tm a.ul a.uh a.sl a.sh a.wl a.wh a.vl a.vh b.tv b.tm b.ul b.uh b.sl b.sh b.wl b.wh b.vl b.vh _ rfl g.ul g.uh g.sl g.sh (nnB_of ga) (nnB_of gb) hx w
set_option maxHeartbeats 16000000 in
theorem k_bitsOf_f (v m : BitVec 64) (w : World) : Calls Tryz.prog 239 #[.agg #[.int .u64 (iv v), .int .u64 (iv m)], .bool false] w fun e w' => e = .returned (.agg #[.int .u64 (iv (lowT v)), .int .u64 (iv (lowT m))]) ∧ Gr w w' := by
  go_enter Tryz.func239, Tryz.ntmps239
  go_upto_region 0 with fail
  refine rG ?_
  refine sF rfl ?_
  refine wp_bx_T rfl rfl ?_
  intro ws1 hn1 hg1
  obtain ⟨PN1, hb1⟩ : ∃ b, w.heap.size = b := ⟨_, rfl⟩
  rw [hb1] at hn1 ⊢
  have hge1 := Nat.le_trans (GrL.refl [] w).size (Nat.le_of_eq hb1)
  have hF_1 := (GrL.refl [] w).then hg1
  simp only [Act.put, zs, z0, z1]
  refine sF rfl ?_
  refine wp_allocT rfl ?_
  intro ws2 hn2 hg2
  obtain ⟨PN2, hb2⟩ : ∃ b, ws1.heap.size = b := ⟨_, rfl⟩
  rw [hb2] at hn2 ⊢
  have hge2 := Nat.le_trans (hF_1).size (Nat.le_of_eq hb2)
  have hnePN1_PN2 : PN1 ≠ PN2 := nl (hn1).lt hb2
  have hPN1_2 := (hn1).gr hg2
  have hF_2 := (hF_1).then hg2
  simp only [Act.put, zs, z0, z1]
  refine s_end ?_
  go_upto_region 3 with fail
  refine rG ?_
  refine sF rfl ?_
  refine wp_pT (v0 := .int .u64 (iv v)) (v1 := .int .u64 (iv m)) rfl rfl (hPN1_2) rfl rfl ?_
  simp only [Act.put, zs, z0, z1]
  refine sF rfl ?_
  refine wp_call2 rfl rfl rfl (by go_simp) ?_
  refine ((fun w => cv (Tn.low_any v m 32 w)) _).mono ?_
  rintro e wk3 ⟨rfl, hk3⟩
  refine ⟨_, rfl, ?_⟩
  have hPN1_3 := (hPN1_2).gr hk3
  have hPN2_3 := (hn2).gr hk3
  have hF_3 := (hF_2).then hk3
  simp only [Act.put, zs, z0, z1]
  refine sF rfl ?_
  refine wp_storeT rfl rfl rfl (hPN2_3) ?_
  intro ws4 hs4 gx4
  have hPN1_4 := (hPN1_3).grx gx4 hnePN1_PN2
  have hF_4 := (hF_3).thenx gx4 (.inr hge2)
  change AtA ws4 PN2 (#[.int .u64 (iv (lowT v)), .int .u64 (iv (lowT m))]) 24 at hs4
  simp only [Act.put, zs, z0, z1]
  refine s_end ?_
  have r0 := (hs4).cell 0
  have r1 := (hs4).cell 1
  simp only [List.getElem?_toArray, List.getElem?_cons_zero, List.getElem?_cons_succ] at r0 r1
  go_wp2
  refine bodyPost_ret (by simp [results, Tryz.results239, go_sem, r0, r1]; try rfl) rfl ?_
  exact ⟨rfl, (hF_4).gr0⟩
theorem k_bitsOf (wd : Bool) (v m : BitVec 64) (w : World) : Calls Tryz.prog 239 #[.agg #[.int .u64 (iv v), .int .u64 (iv m)], .bool wd] w fun e w' => e = .returned (.agg #[.int .u64 (iv (ofT wd v)), .int .u64 (iv (ofT wd m))]) ∧ Gr w w' := by
  cases wd with
  | true => exact k_bitsOf_t v m w
  | false => exact k_bitsOf_f v m w
theorem iv_or_hi (x : BitVec 64) : bits .or .u64 (iv x) 18446744069414584320 = iv (x ||| hiM) := Tn.iv_or x hiM
theorem wp_or_hi {o : Oper} {a : Act} {w : World} {K : Act → World → Prop} {Q : Exit → Act → World → Prop} {x : Operand} {n r : Int} (ho : o.op = .binOp .or 22 x (.const (.int .u64 18446744069414584320)) 22) (hx : a.eval x = .int .u64 n) (hr : bits .or .u64 n 18446744069414584320 = r) (hK : K (a.put o.dst (.int .u64 r)) w) : o.wp Tryz.prog a w K Q := by
  obtain ⟨dst, op, ty, pos, after, guard⟩ := o
  subst ho
  subst hr
  unfold Oper.wp
  simp only [execOp, hx]
  go_simp
  exact hK
set_option maxHeartbeats 16000000 in
theorem k_lowerBits (v m : BitVec 64) (w : World) : Calls Tryz.prog 274 #[.agg #[.int .u64 (iv v), .int .u64 (iv m)]] w fun e w' => e = .returned (.agg #[.int .u64 (iv (lowT v)), .int .u64 (iv (lowT m ||| hiM))]) ∧ Gr w w' := by
  go_enter Tryz.func274, Tryz.ntmps274
  go_upto_region 0 with fail
  refine rG ?_
  refine sF rfl ?_
  refine wp_bx_T rfl rfl ?_
  intro ws1 hn1 hg1
  obtain ⟨PN1, hb1⟩ : ∃ b, w.heap.size = b := ⟨_, rfl⟩
  rw [hb1] at hn1 ⊢
  have hge1 := Nat.le_trans (GrL.refl [] w).size (Nat.le_of_eq hb1)
  have hF_1 := (GrL.refl [] w).then hg1
  simp only [Act.put, zs, z0, z1]
  refine sF rfl ?_
  refine wp_allocT rfl ?_
  intro ws2 hn2 hg2
  obtain ⟨PN2, hb2⟩ : ∃ b, ws1.heap.size = b := ⟨_, rfl⟩
  rw [hb2] at hn2 ⊢
  have hge2 := Nat.le_trans (hF_1).size (Nat.le_of_eq hb2)
  have hnePN1_PN2 : PN1 ≠ PN2 := nl (hn1).lt hb2
  have hPN1_2 := (hn1).gr hg2
  have hF_2 := (hF_1).then hg2
  simp only [Act.put, zs, z0, z1]
  refine s_end ?_
  go_upto_region 1 with fail
  refine rG ?_
  refine sF rfl ?_
  refine wp_pT (v0 := .int .u64 (iv v)) (v1 := .int .u64 (iv m)) rfl rfl (hPN1_2) rfl rfl ?_
  simp only [Act.put, zs, z0, z1]
  refine sF rfl ?_
  refine wp_call2 rfl rfl rfl (by go_simp) ?_
  refine ((fun w => cv (Tn.low_any v m 32 w)) _).mono ?_
  rintro e wk3 ⟨rfl, hk3⟩
  refine ⟨_, rfl, ?_⟩
  have hPN1_3 := (hPN1_2).gr hk3
  have hPN2_3 := (hn2).gr hk3
  have hF_3 := (hF_2).then hk3
  simp only [Act.put, zs, z0, z1]
  refine sF rfl ?_
  refine wp_allocT rfl ?_
  intro ws4 hn4 hg4
  obtain ⟨PN4, hb4⟩ : ∃ b, wk3.heap.size = b := ⟨_, rfl⟩
  rw [hb4] at hn4 ⊢
  have hge4 := Nat.le_trans (hF_3).size (Nat.le_of_eq hb4)
  have hnePN1_PN4 : PN1 ≠ PN4 := nl (hPN1_3).lt hb4
  have hnePN2_PN4 : PN2 ≠ PN4 := nl (hPN2_3).lt hb4
  have hPN1_4 := (hPN1_3).gr hg4
  have hPN2_4 := (hPN2_3).gr hg4
  have hF_4 := (hF_3).then hg4
  simp only [Act.put, zs, z0, z1]
  refine sF rfl ?_
  refine wp_storeT rfl rfl rfl (hn4) ?_
  intro ws5 hs5 gx5
  have hPN1_5 := (hPN1_4).grx gx5 hnePN1_PN4
  have hPN2_5 := (hPN2_4).grx gx5 hnePN2_PN4
  have hF_5 := (hF_4).thenx gx5 (.inr hge4)
  change AtA ws5 PN4 (#[.int .u64 (iv (lowT v)), .int .u64 (iv (lowT m))]) 24 at hs5
  simp only [Act.put, zs, z0, z1]
  refine s_end ?_
  go_upto_region 2 with fail
  refine rG ?_
  refine sF rfl ?_
  refine wp_fT1 rfl rfl ?_
  simp only [Act.put, zs, z0, z1]
  refine sF rfl ?_
  refine wp_ld_uint64 (v := .int .u64 (iv (lowT m))) rfl rfl (hs5) rfl ?_
  simp only [Act.put, zs, z0, z1]
  refine sF rfl ?_
  refine wp_or_hi rfl rfl (iv_or_hi _) ?_
  simp only [Act.put, zs, z0, z1]
  refine sF rfl ?_
  refine wp_fT1 rfl rfl ?_
  simp only [Act.put, zs, z0, z1]
  refine sF rfl ?_
  refine wp_sc_uint64 rfl rfl rfl (hs5) rfl ?_
  intro ws6 hs6 gx6
  have hPN1_6 := (hPN1_5).grx gx6 hnePN1_PN4
  have hPN2_6 := (hPN2_5).grx gx6 hnePN2_PN4
  have hF_6 := (hF_5).thenx gx6 (.inr hge4)
  change AtA ws6 PN4 (#[.int .u64 (iv (lowT v)), .int .u64 (iv (lowT m ||| hiM))]) 24 at hs6
  simp only [Act.put, zs, z0, z1]
  refine s_end ?_
  go_upto_region 3 with fail
  refine rG ?_
  refine sF rfl ?_
  refine wp_pT (v0 := .int .u64 (iv (lowT v))) (v1 := .int .u64 (iv (lowT m ||| hiM))) rfl rfl (hs6) rfl rfl ?_
  simp only [Act.put, zs, z0, z1]
  refine sF rfl ?_
  refine wp_storeT rfl rfl rfl (hPN2_6) ?_
  intro ws7 hs7 gx7
  have hPN1_7 := (hPN1_6).grx gx7 hnePN1_PN2
  have hPN4_7 := (hs6).grx gx7 (Ne.symm hnePN2_PN4)
  have hF_7 := (hF_6).thenx gx7 (.inr hge2)
  change AtA ws7 PN2 (#[.int .u64 (iv (lowT v)), .int .u64 (iv (lowT m ||| hiM))]) 24 at hs7
  simp only [Act.put, zs, z0, z1]
  refine s_end ?_
  have r0 := (hs7).cell 0
  have r1 := (hs7).cell 1
  simp only [List.getElem?_toArray, List.getElem?_cons_zero, List.getElem?_cons_succ] at r0 r1
  go_wp2
  refine bodyPost_ret (by simp [results, Tryz.results274, go_sem, r0, r1]; try rfl) rfl ?_
  exact ⟨rfl, (hF_7).gr0⟩
set_option maxHeartbeats 16000000 in
theorem k_empty (a : Bd) (ga : Good a) (w : World) : Calls Tryz.prog 82 #[.agg (bv a)] w fun e w' => e = .returned (.bool false) ∧ Gr w w' := by
  go_enter Tryz.func82, Tryz.ntmps82
  go_upto_region 0 with fail
  refine rG ?_
  refine sF rfl ?_
  refine wp_bx_B rfl rfl ?_
  intro ws1 hn1 hg1
  obtain ⟨PN1, hb1⟩ : ∃ b, w.heap.size = b := ⟨_, rfl⟩
  rw [hb1] at hn1 ⊢
  have hge1 := Nat.le_trans (GrL.refl [] w).size (Nat.le_of_eq hb1)
  have hF_1 := (GrL.refl [] w).then hg1
  simp only [Act.put, zs, z0, z1]
  refine sF rfl ?_
  refine wA (v := .bool false) rfl rfl ?_
  simp only [Act.put, zs, z0, z1]
  refine s_end ?_
  go_upto_region 1 with fail
  refine rG ?_
  refine sF rfl ?_
  refine wp_loadB rfl rfl (hn1) ?_
  simp only [Act.put, zs, z0, z1]
  refine sF rfl ?_
  refine wp_call1 rfl rfl (by go_simp) ?_
  refine ((fun w => k_none a w) _).mono ?_
  rintro e wk2 ⟨he2, hk2⟩
  obtain rfl : e = .returned (.bool false) := he2.trans (by rw [nnB_of ga])
  clear he2
  refine ⟨_, rfl, ?_⟩
  have hPN1_2 := (hn1).gr hk2
  have hF_2 := (hF_1).then hk2
  simp only [Act.put, zs, z0, z1]
  refine sF rfl ?_
  refine wM (v := .bool false) rfl rfl ?_
  simp only [Act.put, zs, z0, z1]
  refine s_do (by rfl) ?_
  refine wp_fa0 rfl rfl ?_
  simp only [Act.put, zs, z0, z1]
  refine s_do (by rfl) ?_
  refine wp_pT (v0 := .int .u64 (iv a.tv)) (v1 := .int .u64 (iv a.tm)) rfl rfl (hPN1_2) rfl rfl ?_
  simp only [Act.put, zs, z0, z1]
  refine s_do (by rfl) ?_
  refine wp_call1 rfl rfl (by go_simp) ?_
  refine ((fun w => cv (Tn.may_gr a.tv a.tm w)) _).mono ?_
  rintro e wk3 ⟨he3, hk3⟩
  obtain rfl : e = .returned (.bool true) := he3.trans (by rw [ga.t]; rfl)
  clear he3
  refine ⟨_, rfl, ?_⟩
  have hPN1_3 := (hPN1_2).gr hk3
  have hF_3 := (hF_2).then hk3
  simp only [Act.put, zs, z0, z1]
  refine s_do (by rfl) ?_
  refine wp_notT rfl rfl ?_
  simp only [Act.put, zs, z0, z1]
  refine sF rfl ?_
  refine wp_pickF (v := .bool false) rfl rfl rfl ?_
  simp only [Act.put, zs, z0, z1]
  refine sF rfl ?_
  refine wA (v := .bool false) rfl rfl ?_
  simp only [Act.put, zs, z0, z1]
  refine s_end ?_
  go_wp2
  go_ret
  exact ⟨rfl, (hF_3).gr0⟩
set_option maxHeartbeats 16000000 in
theorem k_nothing (w : World) : Calls Tryz.prog 83 #[] w fun e w' => e = .returned (.agg (bv nothingM)) ∧ Gr w w' := by
  go_enter Tryz.func83, Tryz.ntmps83
  go_upto_region 0 with fail
  refine rG ?_
  refine sF rfl ?_
  refine wp_allocB rfl ?_
  intro ws1 hn1 hg1
  obtain ⟨PN1, hb1⟩ : ∃ b, w.heap.size = b := ⟨_, rfl⟩
  rw [hb1] at hn1 ⊢
  have hge1 := Nat.le_trans (GrL.refl [] w).size (Nat.le_of_eq hb1)
  have hF_1 := (GrL.refl [] w).then hg1
  simp only [Act.put, zs, z0, z1]
  refine s_end ?_
  go_upto_region 1 with fail
  refine rG ?_
  refine sF rfl ?_
  refine wp_call1 rfl rfl (by go_simp) ?_
  refine ((fun w => k_const (0#64) w) _).mono ?_
  rintro e wk2 ⟨rfl, hk2⟩
  refine ⟨_, rfl, ?_⟩
  have hPN1_2 := (hn1).gr hk2
  have hF_2 := (hF_1).then hk2
  simp only [Act.put, zs, z0, z1]
  refine sF rfl ?_
  refine wp_call1 rfl rfl (by go_simp) ?_
  refine ((fun w => k_const (1#64) w) _).mono ?_
  rintro e wk3 ⟨rfl, hk3⟩
  refine ⟨_, rfl, ?_⟩
  have hPN1_3 := (hPN1_2).gr hk3
  have hF_3 := (hF_2).then hk3
  simp only [Act.put, zs, z0, z1]
  refine sF rfl ?_
  refine wp_call2 rfl rfl rfl (by go_simp) ?_
  refine ((fun w => k_meet_no (constM 0#64) (constM 1#64) (nnB_of (good_const _)) (nnB_of (good_const _)) (by decide) w) _).mono ?_
  rintro e wk4 ⟨rfl, hk4⟩
  refine ⟨_, rfl, ?_⟩
  have hPN1_4 := (hPN1_3).gr hk4
  have hF_4 := (hF_3).then hk4
  simp only [Act.put, zs, z0, z1]
  refine sF rfl ?_
  refine wp_storeB rfl rfl rfl (hPN1_4) ?_
  intro ws5 hs5 gx5
  have hF_5 := (hF_4).thenx gx5 (.inr hge1)
  change AtA ws5 PN1 (bv nothingM) 30 at hs5
  simp only [Act.put, zs, z0, z1]
  refine s_end ?_
  obtain ⟨r0, r1, r2, r3, r4, r5, r6, r7, r8, r9⟩ := cells_bv (hs5)
  go_wp2
  refine bodyPost_ret (by simp [results, Tryz.results83, go_sem, r0, r1, r2, r3, r4, r5, r6, r7, r8, r9]; try rfl) rfl ?_
  exact ⟨rfl, (hF_5).gr0⟩
end Go.Proofs.YtcbcijibgpaipaaGreat
