/- Towards the statements of package cond (layer 6): the document's example; codes. -/
import Derived.Test.YtcbcijibgpaipaaGreatCS
import Derived.KernelRfl
import Derived.Deep.DeepCutAuto
namespace Go.Proofs.YtcbcijibgpaipaaGreat
open Go.ChangeShapes Go.WideShapes Go.ChangeAt Go.RowKit
open Tn (iv)
set_option linter.unusedVariables false
set_option linter.unusedSimpArgs false
set_option maxRecDepth 20000

theorem codes_lo (c : Int) (h0 : 0 ≤ c) (h1 : c ≤ 255) (h : c % 12 ≤ 7) (w : World) : Calls Tryz.prog 34 #[.int .u8 c] w fun e w' => e = .returned (.int .u8 (c % 12)) ∧ Gr w w' := by
  go_enter Tryz.func34, Tryz.ntmps34
  go_wp2
  go_ret
  exact ⟨rfl, Gr.refl w⟩
theorem codes_hi (c : Int) (h0 : 0 ≤ c) (h1 : c ≤ 255) (h : 7 < c % 12) (w : World) : Calls Tryz.prog 34 #[.int .u8 c] w fun e w' => e = .returned (.int .u8 (c % 12 + 2)) ∧ Gr w w' := by
  have r : IntKind.u8.wrap (c % 12 + 2) = c % 12 + 2 := by
    simp [IntKind.wrap, IntKind.bits, IntKind.signed]
    omega
  go_enter Tryz.func34, Tryz.ntmps34
  go_wp2
  go_ret
  exact ⟨rfl, Gr.refl w⟩
theorem k_codes (c : Int) (h0 : 0 ≤ c) (h1 : c ≤ 255) : ∃ d, codeM d ∧ ∀ w, Calls Tryz.prog 34 #[.int .u8 c] w fun e w' => e = .returned (.int .u8 d) ∧ Gr w w' := by
  rcases Int.lt_or_le 7 (c % 12) with h | h
  · refine ⟨c % 12 + 2, ?_, fun w => codes_hi c h0 h1 h w⟩
    unfold codeM
    omega
  · refine ⟨c % 12, ?_, fun w => codes_lo c h0 h1 h w⟩
    unfold codeM
    omega
theorem tells_8 (wd : Bool) (w : World) : Calls Tryz.prog 169 #[.int .u8 8, .bool wd] w fun e w' => e = .returned .nilFunc ∧ Gr w w' := by
  go_enter Tryz.func169, Tryz.ntmps169
  go_wp2
  go_ret
  exact ⟨rfl, Gr.refl w⟩
theorem told_8 (wd : Bool) (w : World) : Calls Tryz.prog 81 #[.int .u8 8, .bool wd, .bool true] w fun e w' => e = .returned .nilFunc ∧ Gr w w' := by
  go_enter Tryz.func81, Tryz.ntmps81
  go_wp2_with (go_at_call 169; refine (tells_8 _ _).mono ?_; rintro e w1 ⟨rfl, hg⟩)
  go_ret
  exact ⟨rfl, hg⟩
theorem wp_fnil2 {o : Oper} {a : Act} {w : World} {K : Act → World → Prop} {Q : Exit → Act → World → Prop} {x : Operand} (ho : o.op = .binOp .eql 102 x (.const .nilFunc) 102) (hx : a.eval x = .nilFunc) (hK : K (a.put o.dst (.bool true)) w) : o.wp Tryz.prog a w K Q := by
  obtain ⟨dst, op, ty, pos, after, guard⟩ := o
  subst ho
  unfold Oper.wp
  simp only [execOp, hx]
  go_simp
  exact hK
theorem wp_bld0 {o : Oper} {a : Act} {w : World} {K : Act → World → Prop} {Q : Exit → Act → World → Prop} (ho : o.op = .build 30 #[]) (hK : K (a.put o.dst (.agg (bv zeroM))) w) : o.wp Tryz.prog a w K Q := by
  obtain ⟨dst, op, ty, pos, after, guard⟩ := o
  subst ho
  unfold Oper.wp
  simp only [execOp]
  go_simp
  exact hK
set_option maxHeartbeats 16000000 in
theorem ref_8 (wd : Bool) (a b : Bd) (w : World) : Calls Tryz.prog 29 #[.int .u8 8, .bool wd, .bool true, .agg (bv a), .agg (bv b)] w fun e w' => e = .returned (.tuple #[.agg (bv zeroM), .agg (bv zeroM), .bool false, .int .i64 20]) ∧ Gr w w' := by
  go_enter Tryz.func29, Tryz.ntmps29
  go_upto_region 0 with fail
  refine rG ?_
  refine sF rfl ?_
  refine wp_bx_B rfl rfl ?_
  intro ws1 hn1 hg1
  obtain ⟨PN1, hb1⟩ : ∃ b, w.heap.size = b := ⟨_, rfl⟩
  rw [hb1] at hn1 ⊢
  have hge1 := Nat.le_trans (GrL.refl [] w).size (Nat.le_of_eq hb1)
  have hF_1 := (GrL.refl [] w).then hg1
  simp only [Act.put, zs, z0, z1]
  refine sF rfl ?_
  refine wp_bx_B rfl rfl ?_
  intro ws2 hn2 hg2
  obtain ⟨PN2, hb2⟩ : ∃ b, ws1.heap.size = b := ⟨_, rfl⟩
  rw [hb2] at hn2 ⊢
  have hge2 := Nat.le_trans (hF_1).size (Nat.le_of_eq hb2)
  have hnePN1_PN2 : PN1 ≠ PN2 := nl (hn1).lt hb2
  have hPN1_2 := (hn1).gr hg2
  have hF_2 := (hF_1).then hg2
  simp only [Act.put, zs, z0, z1]
  refine sF rfl ?_
  refine wp_allocB rfl ?_
  intro ws3 hn3 hg3
  obtain ⟨PN3, hb3⟩ : ∃ b, ws2.heap.size = b := ⟨_, rfl⟩
  rw [hb3] at hn3 ⊢
  have hge3 := Nat.le_trans (hF_2).size (Nat.le_of_eq hb3)
  have hnePN1_PN3 : PN1 ≠ PN3 := nl (hPN1_2).lt hb3
  have hnePN2_PN3 : PN2 ≠ PN3 := nl (hn2).lt hb3
  have hPN1_3 := (hPN1_2).gr hg3
  have hPN2_3 := (hn2).gr hg3
  have hF_3 := (hF_2).then hg3
  simp only [Act.put, zs, z0, z1]
  refine sF rfl ?_
  refine wp_allocB rfl ?_
  intro ws4 hn4 hg4
  obtain ⟨PN4, hb4⟩ : ∃ b, ws3.heap.size = b := ⟨_, rfl⟩
  rw [hb4] at hn4 ⊢
  have hge4 := Nat.le_trans (hF_3).size (Nat.le_of_eq hb4)
  have hnePN1_PN4 : PN1 ≠ PN4 := nl (hPN1_3).lt hb4
  have hnePN2_PN4 : PN2 ≠ PN4 := nl (hPN2_3).lt hb4
  have hnePN3_PN4 : PN3 ≠ PN4 := nl (hn3).lt hb4
  have hPN1_4 := (hPN1_3).gr hg4
  have hPN2_4 := (hPN2_3).gr hg4
  have hPN3_4 := (hn3).gr hg4
  have hF_4 := (hF_3).then hg4
  simp only [Act.put, zs, z0, z1]
  refine sF rfl ?_
  refine wA (v := .bool false) rfl rfl ?_
  simp only [Act.put, zs, z0, z1]
  refine sF rfl ?_
  refine wA (v := .int .i64 0) rfl rfl ?_
  simp only [Act.put, zs, z0, z1]
  refine s_end ?_
  go_upto_region 1 with fail
  refine rG ?_
  refine sF rfl ?_
  refine wM (v := .int .u8 8) rfl rfl ?_
  simp only [Act.put, zs, z0, z1]
  refine sF rfl ?_
  refine wM (v := .bool wd) rfl rfl ?_
  simp only [Act.put, zs, z0, z1]
  refine sF rfl ?_
  refine wM (v := .bool true) rfl rfl ?_
  simp only [Act.put, zs, z0, z1]
  refine sF rfl ?_
  refine wp_call3 rfl rfl rfl rfl (by go_simp) ?_
  refine ((fun w => told_8 wd w) _).mono ?_
  rintro e wk5 ⟨rfl, hk5⟩
  refine ⟨_, rfl, ?_⟩
  have hPN1_5 := (hPN1_4).gr hk5
  have hPN2_5 := (hPN2_4).gr hk5
  have hPN3_5 := (hPN3_4).gr hk5
  have hPN4_5 := (hn4).gr hk5
  have hF_5 := (hF_4).then hk5
  simp only [Act.put, zs, z0, z1]
  refine sF rfl ?_
  refine wA (v := .nilFunc) rfl rfl ?_
  simp only [Act.put, zs, z0, z1]
  refine s_end ?_
  go_upto_region 2 with fail
  refine rG ?_
  refine sF rfl ?_
  refine wM (v := .nilFunc) rfl rfl ?_
  simp only [Act.put, zs, z0, z1]
  refine sF rfl ?_
  refine wp_fnil2 rfl rfl ?_
  simp only [Act.put, zs, z0, z1]
  refine s_end ?_
  go_upto_region 3 with fail
  refine rG ?_
  refine sF rfl ?_
  refine wp_bld0 rfl ?_
  simp only [Act.put, zs, z0, z1]
  refine sF rfl ?_
  refine wp_bld0 rfl ?_
  simp only [Act.put, zs, z0, z1]
  refine sF rfl ?_
  refine wp_storeB rfl rfl rfl (hPN3_5) ?_
  intro ws6 hs6 gx6
  have hPN1_6 := (hPN1_5).grx gx6 hnePN1_PN3
  have hPN2_6 := (hPN2_5).grx gx6 hnePN2_PN3
  have hPN4_6 := (hPN4_5).grx gx6 (Ne.symm hnePN3_PN4)
  have hF_6 := (hF_5).thenx gx6 (.inr hge3)
  change AtA ws6 PN3 (bv zeroM) 30 at hs6
  simp only [Act.put, zs, z0, z1]
  refine sF rfl ?_
  refine wp_storeB rfl rfl rfl (hPN4_6) ?_
  intro ws7 hs7 gx7
  have hPN1_7 := (hPN1_6).grx gx7 hnePN1_PN4
  have hPN2_7 := (hPN2_6).grx gx7 hnePN2_PN4
  have hPN3_7 := (hs6).grx gx7 hnePN3_PN4
  have hF_7 := (hF_6).thenx gx7 (.inr hge4)
  change AtA ws7 PN4 (bv zeroM) 30 at hs7
  simp only [Act.put, zs, z0, z1]
  refine sF rfl ?_
  refine wA (v := .bool false) rfl rfl ?_
  simp only [Act.put, zs, z0, z1]
  refine sF rfl ?_
  refine wA (v := .int .i64 20) rfl rfl ?_
  simp only [Act.put, zs, z0, z1]
  refine s_end ?_
  obtain ⟨r0, r1, r2, r3, r4, r5, r6, r7, r8, r9⟩ := cells_bv (hPN3_7)
  obtain ⟨t0, t1, t2, t3, t4, t5, t6, t7, t8, t9⟩ := cells_bv (hs7)
  go_wp2
  refine bodyPost_ret (by simp [results, Tryz.results29, go_sem, r0, r1, r2, r3, r4, r5, r6, r7, r8, r9, t0, t1, t2, t3, t4, t5, t6, t7, t8, t9]; try rfl) rfl ?_
  exact ⟨rfl, (hF_7).gr0⟩
end Go.Proofs.YtcbcijibgpaipaaGreat
