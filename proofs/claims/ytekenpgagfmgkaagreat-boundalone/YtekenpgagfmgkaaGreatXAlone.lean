/- Towards the statements of package bound (layer 5): BoundAlone, walked. -/
import Derived.Test.YtekenpgagfmgkaaGreatME
import Derived.Deep.DeepCutAuto
namespace Go.Proofs.YtekenpgagfmgkaaGreat
open Go.ChangeShapes Go.WideShapes Go.ChangeAt Go.RowKit
open Tn (iv)
set_option linter.unusedVariables false
set_option linter.unusedSimpArgs false
set_option maxRecDepth 20000

theorem k_one1 (z : BitVec 64) (w : World) : Calls Tryz.prog 9 #[.agg (bv (constM z))] w fun e w' => e = .returned (.tuple #[.int .u64 (iv z), .bool true]) ∧ Gr w w' := by
  refine one_q z 0#64 (iv z) (iv z) (wrap64 (iv z)) (wrap64 (iv z)) (iv z % 4294967296) (iv z % 4294967296) (sg (iv z)) (sg (iv z)) true ?_ w
  show ((0#64 == 0#64) && hasM (constM z) z) = true
  rw [(hasM_iff _ _).2 (has_const z)]
  rfl
set_option maxHeartbeats 8000000 in
theorem alone_law (x y : BitVec 64) (k0 k : Int) (hk : 0 ≤ k ∧ k ≤ 12) (e1 : k0.tmod 13 = k) (e2 : IntKind.u8.wrap k = k) (wd : Bool) (w : World) : Calls Tryz.prog 7 #[.int .u64 (iv x), .int .u64 (iv y), .int .u8 k0, .bool wd] w fun e w' => e = .returned (.bool true) ∧ Gr w w' := by
  have e3 : (iv y).tmod 4294967296 = iv y % 4294967296 := Int.tmod_eq_emod_of_nonneg (iv_range y).1
  have hD := does_all (good_const x) (good_const y) (has_const x) (has_const y) k hk.1 hk.2 wd
  have hE : Wd.errD k = 0 := if_pos hk.2
  have hA := fun w => Wd.does_any wd k (iv x) (iv y) hk.1 (iv_range x) (iv_range y) w
  clear hk
  obtain ⟨q9, h9⟩ : ∃ q, (k == 9) = q := ⟨_, rfl⟩
  obtain ⟨q3, h3⟩ : ∃ q, (k == 3) = q := ⟨_, rfl⟩
  cases wd with
  | false =>
    obtain ⟨ql, hl⟩ : ∃ q, ((iv y % 4294967296) == 0) = q := ⟨_, rfl⟩
    have hq : (q9 = false → (q3 = false ∨ ql = false) → (k ≠ 9 ∧ (k = 3 → Wd.lowV (iv y) (Wd.sz false) ≠ 0))) := by
      intro a9 a3
      subst a9
      refine ⟨fun h => (by rw [h] at h9; cases h9), fun h => ?_⟩
      rcases a3 with a3 | a3
      · rw [a3, h] at h3
        cases h3
      · rw [a3] at hl
        rw [szf, lw4]
        intro h0
        rw [h0] at hl
        cases hl
    cases q9 with
    | true =>
      go_enter Tryz.func7, Tryz.ntmps7
      go_upto_region 5 with fail
      refine wp_region_seqq (C := Gr w) (Gr.refl _) ?_
      refine q_do (by rfl) ?_
      refine q_move (v := .int .u8 k) rfl rfl ?_
      refine q_do (by rfl) ?_
      refine q_eql_u8 (r := true) rfl rfl rfl (h9) ?_
      refine q_do (by rfl) ?_
      refine q_move (v := .bool true) rfl rfl ?_
      simp only [Act.put, List.setIfInBounds_toArray, List.set_cons_zero, List.set_cons_succ]
      refine q_skip (by rfl) ?_
      refine q_skip (by rfl) ?_
      refine q_skip (by rfl) ?_
      simp only [Act.put, List.setIfInBounds_toArray, List.set_cons_zero, List.set_cons_succ]
      refine q_skip (by rfl) ?_
      refine q_skip (by rfl) ?_
      refine q_skip (by rfl) ?_
      simp only [Act.put, List.setIfInBounds_toArray, List.set_cons_zero, List.set_cons_succ]
      refine q_do (by rfl) ?_
      refine q_pickT (v := .bool true) rfl rfl rfl ?_
      simp only [Act.put, List.setIfInBounds_toArray, List.set_cons_zero, List.set_cons_succ]
      intro wq1 hq1
      have hF_1 := (Gr.refl w).trans hq1
      go_upto_region 6 with fail
      refine wp_region_seqq (C := Gr wq1) (Gr.refl _) ?_
      refine q_do (by rfl) ?_
      refine q_call0 rfl (fun w => by go_simp) (grc (works_any) (rfl)) ?_
      refine q_do (by rfl) ?_
      refine q_assign (v := .bool true) rfl rfl ?_
      simp only [Act.put, List.setIfInBounds_toArray, List.set_cons_zero, List.set_cons_succ]
      intro wq2 hq2
      have hF_2 := (hF_1).trans hq2
      go_wp2
      go_ret
      exact ⟨rfl, hF_2⟩
    | false =>
      cases q3 with
      | false =>
        go_enter Tryz.func7, Tryz.ntmps7
        go_upto_region 5 with fail
        refine wp_region_seqq (C := Gr w) (Gr.refl _) ?_
        refine q_do (by rfl) ?_
        refine q_move (v := .int .u8 k) rfl rfl ?_
        refine q_do (by rfl) ?_
        refine q_eql_u8 (r := false) rfl rfl rfl (h9) ?_
        refine q_do (by rfl) ?_
        refine q_move (v := .bool false) rfl rfl ?_
        simp only [Act.put, List.setIfInBounds_toArray, List.set_cons_zero, List.set_cons_succ]
        refine q_do (by rfl) ?_
        refine q_move (v := .int .u8 k) rfl rfl ?_
        refine q_do (by rfl) ?_
        refine q_eql_u8 (r := false) rfl rfl rfl (h3) ?_
        refine q_do (by rfl) ?_
        refine q_move (v := .bool false) rfl rfl ?_
        simp only [Act.put, List.setIfInBounds_toArray, List.set_cons_zero, List.set_cons_succ]
        refine q_skip (by rfl) ?_
        refine q_skip (by rfl) ?_
        refine q_do (by rfl) ?_
        refine q_pickF (v := .bool false) rfl rfl rfl ?_
        simp only [Act.put, List.setIfInBounds_toArray, List.set_cons_zero, List.set_cons_succ]
        refine q_do (by rfl) ?_
        refine q_pickF (v := .bool false) rfl rfl rfl ?_
        simp only [Act.put, List.setIfInBounds_toArray, List.set_cons_zero, List.set_cons_succ]
        intro wq1 hq1
        have hF_1 := (Gr.refl w).trans hq1
        obtain ⟨z, hz, C, gC, kC, hp, cC⟩ := hD
        have eC : C = constM z := hp (hq rfl (.inl rfl)) rfl rfl
        subst eC
        have cz : ∀ w, Calls Tryz.prog 29 #[.int .u8 k, .bool false, .int .u64 (iv x), .int .u64 (iv y)] w fun e w' => e = .returned (.tuple #[.int .u64 (iv z), .int .i64 0]) ∧ Gr w w' := fun w => (hA w).mono (fun e w' h => ⟨by rw [h.1, hz, hE], ⟨h.2.below, h.2.grown⟩⟩)
        clear hp hq hA hz hE
        go_upto_region 7 with fail
        refine wp_region_sqn (C := Gr wq1) 10 (by kernel_rfl) (Gr.refl _) ?_
        refine q_do (by rfl) ?_
        refine q_move (v := .int .u8 k) rfl rfl ?_
        refine q_do (by rfl) ?_
        refine q_move (v := .bool false) rfl rfl ?_
        refine q_do (by rfl) ?_
        refine q_move (v := .int .u64 (iv x)) rfl rfl ?_
        simp only [Act.put, List.setIfInBounds_toArray, List.set_cons_zero, List.set_cons_succ]
        refine q_do (by rfl) ?_
        refine q_call1 rfl rfl (fun w => by go_simp) (grc (fun w => k_const x w) (rfl)) ?_
        refine q_do (by rfl) ?_
        refine q_move (v := .int .u64 (iv y)) rfl rfl ?_
        refine q_do (by rfl) ?_
        refine q_call1 rfl rfl (fun w => by go_simp) (grc (fun w => k_const y w) (rfl)) ?_
        simp only [Act.put, List.setIfInBounds_toArray, List.set_cons_zero, List.set_cons_succ]
        refine q_do (by rfl) ?_
        refine q_call4 rfl rfl rfl rfl rfl (fun w => by go_simp) (grc (cC) (rfl)) ?_
        refine q_do (by rfl) ?_
        refine q_move (v := .tuple #[.agg (bv (constM z)), .int .i64 0]) rfl rfl ?_
        refine q_do (by rfl) ?_
        refine q_extract (v := .agg (bv (constM z))) rfl rfl rfl ?_
        simp only [Act.put, List.setIfInBounds_toArray, List.set_cons_zero, List.set_cons_succ]
        refine q_do (by rfl) ?_
        refine q_extract (v := .int .i64 0) rfl rfl rfl ?_
        simp only [Act.put, List.setIfInBounds_toArray, List.set_cons_zero, List.set_cons_succ]
        intro wq2 hq2
        have hF_2 := (hF_1).trans hq2
        refine seq_do ?_
        refine wp_allocB rfl ?_
        intro ws3 hn3 hg3
        have hge3 := (hF_2).below.size
        have hF_3 := (hF_2).trans hg3
        revert hn3 hge3 
        generalize wq2.heap.size = PN3
        intro hn3 hge3 
        refine seq_do ?_
        refine wp_storeB rfl rfl rfl (hn3) ?_
        intro ws4 hs4 gx4
        have hF_4 := gx4.gr _ (hF_3) hge3
        refine seq_do ?_
        refine wp_assign (v := .int .i64 0) rfl rfl ?_
        simp only [Act.put, List.setIfInBounds_toArray, List.set_cons_zero, List.set_cons_succ]
        refine seq_end ?_
        go_upto_region 8 with fail
        refine wp_region_seqq (C := Gr ws4) (Gr.refl _) ?_
        refine q_do (by rfl) ?_
        refine q_move (v := .int .u8 k) rfl rfl ?_
        refine q_do (by rfl) ?_
        refine q_move (v := .bool false) rfl rfl ?_
        refine q_do (by rfl) ?_
        refine q_move (v := .int .u64 (iv x)) rfl rfl ?_
        simp only [Act.put, List.setIfInBounds_toArray, List.set_cons_zero, List.set_cons_succ]
        refine q_do (by rfl) ?_
        refine q_move (v := .int .u64 (iv y)) rfl rfl ?_
        refine q_do (by rfl) ?_
        refine q_call4 rfl rfl rfl rfl rfl (fun w => by go_simp) (grc (cz) (rfl)) ?_
        refine q_do (by rfl) ?_
        refine q_move (v := .tuple #[.int .u64 (iv z), .int .i64 0]) rfl rfl ?_
        simp only [Act.put, List.setIfInBounds_toArray, List.set_cons_zero, List.set_cons_succ]
        refine q_do (by rfl) ?_
        refine q_extract (v := .int .u64 (iv z)) rfl rfl rfl ?_
        refine q_do (by rfl) ?_
        refine q_extract (v := .int .i64 0) rfl rfl rfl ?_
        refine q_do (by rfl) ?_
        refine q_assign (v := .int .u64 (iv z)) rfl rfl ?_
        simp only [Act.put, List.setIfInBounds_toArray, List.set_cons_zero, List.set_cons_succ]
        refine q_do (by rfl) ?_
        refine q_assign (v := .int .i64 0) rfl rfl ?_
        simp only [Act.put, List.setIfInBounds_toArray, List.set_cons_zero, List.set_cons_succ]
        intro wq5 hq5
        have hPN3_5 := (hs4).gr hq5
        have hF_5 := (hF_4).trans hq5
        go_upto_region 9 with fail
        refine wp_region_seqq (C := Gr wq5) (Gr.refl _) ?_
        refine q_do (by rfl) ?_
        refine q_loadB rfl rfl (fun w h => (hPN3_5).gr h) ?_
        refine q_do (by rfl) ?_
        refine q_call1 rfl rfl (fun w => by go_simp) (grc (fun w => k_one1 z w) (rfl)) ?_
        refine q_do (by rfl) ?_
        refine q_move (v := .tuple #[.int .u64 (iv z), .bool true]) rfl rfl ?_
        simp only [Act.put, List.setIfInBounds_toArray, List.set_cons_zero, List.set_cons_succ]
        refine q_do (by rfl) ?_
        refine q_extract (v := .int .u64 (iv z)) rfl rfl rfl ?_
        refine q_do (by rfl) ?_
        refine q_extract (v := .bool true) rfl rfl rfl ?_
        refine q_do (by rfl) ?_
        refine q_assign (v := .int .u64 (iv z)) rfl rfl ?_
        simp only [Act.put, List.setIfInBounds_toArray, List.set_cons_zero, List.set_cons_succ]
        refine q_do (by rfl) ?_
        refine q_assign (v := .bool true) rfl rfl ?_
        simp only [Act.put, List.setIfInBounds_toArray, List.set_cons_zero, List.set_cons_succ]
        intro wq6 hq6
        have hPN3_6 := (hPN3_5).gr hq6
        have hF_6 := (hF_5).trans hq6
        go_upto_region 10 with fail
        refine wp_region_q (C := Gr wq6) (by kernel_rfl) (by kernel_rfl) (Gr.drew (Gr.refl _)) ?_
        refine q_do (by rfl) ?_
        refine q_move (v := .int .i64 0) rfl rfl ?_
        refine q_do (by rfl) ?_
        refine q_eql_er (r := true) rfl rfl rfl (rfl) ?_
        refine q_do (by rfl) ?_
        refine q_move (v := .bool true) rfl rfl ?_
        simp only [Act.put, List.setIfInBounds_toArray, List.set_cons_zero, List.set_cons_succ]
        refine q_do (by rfl) ?_
        refine q_move (v := .int .i64 0) rfl rfl ?_
        refine q_do (by rfl) ?_
        refine q_eql_er (r := true) rfl rfl rfl (rfl) ?_
        refine q_do (by rfl) ?_
        refine q_pickT (v := .bool true) rfl rfl rfl ?_
        simp only [Act.put, List.setIfInBounds_toArray, List.set_cons_zero, List.set_cons_succ]
        refine q_do (by rfl) ?_
        refine q_move (v := .bool true) rfl rfl ?_
        refine q_do (by rfl) ?_
        refine q_move (v := .bool true) rfl rfl ?_
        refine q_do (by rfl) ?_
        refine q_pickT (v := .bool true) rfl rfl rfl ?_
        simp only [Act.put, List.setIfInBounds_toArray, List.set_cons_zero, List.set_cons_succ]
        refine q_do (by rfl) ?_
        refine q_move (v := .bool true) rfl rfl ?_
        refine q_do (by rfl) ?_
        refine q_move (v := .int .u64 (iv z)) rfl rfl ?_
        refine q_do (by rfl) ?_
        refine q_move (v := .int .u64 (iv z)) rfl rfl ?_
        simp only [Act.put, List.setIfInBounds_toArray, List.set_cons_zero, List.set_cons_succ]
        refine q_do (by rfl) ?_
        refine q_eql_u64 (r := true) rfl rfl rfl (by simp) ?_
        refine q_do (by rfl) ?_
        refine q_pickT (v := .bool true) rfl rfl rfl ?_
        refine q_do (by rfl) ?_
        refine q_move (v := .bool true) rfl rfl ?_
        simp only [Act.put, List.setIfInBounds_toArray, List.set_cons_zero, List.set_cons_succ]
        refine q_do (by rfl) ?_
        refine q_loadB rfl rfl (fun w h => (hPN3_6).gr h) ?_
        refine q_do (by rfl) ?_
        refine q_move (v := .int .u64 (iv z)) rfl rfl ?_
        refine q_do (by rfl) ?_
        refine q_call1 rfl rfl (fun w => by go_simp) (grc (fun w => k_const z w) (rfl)) ?_
        simp only [Act.put, List.setIfInBounds_toArray, List.set_cons_zero, List.set_cons_succ]
        refine q_do (by rfl) ?_
        refine q_eqS (d := (constM z)) rfl rfl rfl ?_
        refine q_do (by rfl) ?_
        refine q_pickT (v := .bool true) rfl rfl rfl ?_
        refine q_do (by rfl) ?_
        refine q_move (v := .bool true) rfl rfl ?_
        simp only [Act.put, List.setIfInBounds_toArray, List.set_cons_zero, List.set_cons_succ]
        refine q_do (by rfl) ?_
        refine q_call0 rfl (fun w => by go_simp) (grc (works_any) (rfl)) ?_
        refine q_do (by rfl) ?_
        refine q_pickT (v := .bool true) rfl rfl rfl ?_
        refine q_do (by rfl) ?_
        refine q_assign (v := .bool true) rfl rfl ?_
        simp only [Act.put, List.setIfInBounds_toArray, List.set_cons_zero, List.set_cons_succ]
        intro wq7 hq7
        have hPN3_7 := (hPN3_6).gr hq7
        have hF_7 := (hF_6).trans hq7
        go_wp2
        go_ret
        exact ⟨rfl, hF_7⟩
      | true =>
        cases ql with
        | true =>
          go_enter Tryz.func7, Tryz.ntmps7
          go_upto_region 5 with fail
          refine wp_region_seqq (C := Gr w) (Gr.refl _) ?_
          refine q_do (by rfl) ?_
          refine q_move (v := .int .u8 k) rfl rfl ?_
          refine q_do (by rfl) ?_
          refine q_eql_u8 (r := false) rfl rfl rfl (h9) ?_
          refine q_do (by rfl) ?_
          refine q_move (v := .bool false) rfl rfl ?_
          simp only [Act.put, List.setIfInBounds_toArray, List.set_cons_zero, List.set_cons_succ]
          refine q_do (by rfl) ?_
          refine q_move (v := .int .u8 k) rfl rfl ?_
          refine q_do (by rfl) ?_
          refine q_eql_u8 (r := true) rfl rfl rfl (h3) ?_
          refine q_do (by rfl) ?_
          refine q_move (v := .bool true) rfl rfl ?_
          simp only [Act.put, List.setIfInBounds_toArray, List.set_cons_zero, List.set_cons_succ]
          refine q_do (by rfl) ?_
          refine q_move (v := .int .u64 (iv y % 4294967296)) rfl rfl ?_
          refine q_do (by rfl) ?_
          refine q_eql_u64 (r := true) rfl rfl rfl (hl) ?_
          refine q_do (by rfl) ?_
          refine q_pickT (v := .bool true) rfl rfl rfl ?_
          simp only [Act.put, List.setIfInBounds_toArray, List.set_cons_zero, List.set_cons_succ]
          refine q_do (by rfl) ?_
          refine q_pickF (v := .bool true) rfl rfl rfl ?_
          simp only [Act.put, List.setIfInBounds_toArray, List.set_cons_zero, List.set_cons_succ]
          intro wq1 hq1
          have hF_1 := (Gr.refl w).trans hq1
          go_upto_region 6 with fail
          refine wp_region_seqq (C := Gr wq1) (Gr.refl _) ?_
          refine q_do (by rfl) ?_
          refine q_call0 rfl (fun w => by go_simp) (grc (works_any) (rfl)) ?_
          refine q_do (by rfl) ?_
          refine q_assign (v := .bool true) rfl rfl ?_
          simp only [Act.put, List.setIfInBounds_toArray, List.set_cons_zero, List.set_cons_succ]
          intro wq2 hq2
          have hF_2 := (hF_1).trans hq2
          go_wp2
          go_ret
          exact ⟨rfl, hF_2⟩
        | false =>
          go_enter Tryz.func7, Tryz.ntmps7
          go_upto_region 5 with fail
          refine wp_region_seqq (C := Gr w) (Gr.refl _) ?_
          refine q_do (by rfl) ?_
          refine q_move (v := .int .u8 k) rfl rfl ?_
          refine q_do (by rfl) ?_
          refine q_eql_u8 (r := false) rfl rfl rfl (h9) ?_
          refine q_do (by rfl) ?_
          refine q_move (v := .bool false) rfl rfl ?_
          simp only [Act.put, List.setIfInBounds_toArray, List.set_cons_zero, List.set_cons_succ]
          refine q_do (by rfl) ?_
          refine q_move (v := .int .u8 k) rfl rfl ?_
          refine q_do (by rfl) ?_
          refine q_eql_u8 (r := true) rfl rfl rfl (h3) ?_
          refine q_do (by rfl) ?_
          refine q_move (v := .bool true) rfl rfl ?_
          simp only [Act.put, List.setIfInBounds_toArray, List.set_cons_zero, List.set_cons_succ]
          refine q_do (by rfl) ?_
          refine q_move (v := .int .u64 (iv y % 4294967296)) rfl rfl ?_
          refine q_do (by rfl) ?_
          refine q_eql_u64 (r := false) rfl rfl rfl (hl) ?_
          refine q_do (by rfl) ?_
          refine q_pickT (v := .bool false) rfl rfl rfl ?_
          simp only [Act.put, List.setIfInBounds_toArray, List.set_cons_zero, List.set_cons_succ]
          refine q_do (by rfl) ?_
          refine q_pickF (v := .bool false) rfl rfl rfl ?_
          simp only [Act.put, List.setIfInBounds_toArray, List.set_cons_zero, List.set_cons_succ]
          intro wq1 hq1
          have hF_1 := (Gr.refl w).trans hq1
          obtain ⟨z, hz, C, gC, kC, hp, cC⟩ := hD
          have eC : C = constM z := hp (hq rfl (.inr rfl)) rfl rfl
          subst eC
          have cz : ∀ w, Calls Tryz.prog 29 #[.int .u8 k, .bool false, .int .u64 (iv x), .int .u64 (iv y)] w fun e w' => e = .returned (.tuple #[.int .u64 (iv z), .int .i64 0]) ∧ Gr w w' := fun w => (hA w).mono (fun e w' h => ⟨by rw [h.1, hz, hE], ⟨h.2.below, h.2.grown⟩⟩)
          clear hp hq hA hz hE
          go_upto_region 7 with fail
          refine wp_region_sqn (C := Gr wq1) 10 (by kernel_rfl) (Gr.refl _) ?_
          refine q_do (by rfl) ?_
          refine q_move (v := .int .u8 k) rfl rfl ?_
          refine q_do (by rfl) ?_
          refine q_move (v := .bool false) rfl rfl ?_
          refine q_do (by rfl) ?_
          refine q_move (v := .int .u64 (iv x)) rfl rfl ?_
          simp only [Act.put, List.setIfInBounds_toArray, List.set_cons_zero, List.set_cons_succ]
          refine q_do (by rfl) ?_
          refine q_call1 rfl rfl (fun w => by go_simp) (grc (fun w => k_const x w) (rfl)) ?_
          refine q_do (by rfl) ?_
          refine q_move (v := .int .u64 (iv y)) rfl rfl ?_
          refine q_do (by rfl) ?_
          refine q_call1 rfl rfl (fun w => by go_simp) (grc (fun w => k_const y w) (rfl)) ?_
          simp only [Act.put, List.setIfInBounds_toArray, List.set_cons_zero, List.set_cons_succ]
          refine q_do (by rfl) ?_
          refine q_call4 rfl rfl rfl rfl rfl (fun w => by go_simp) (grc (cC) (rfl)) ?_
          refine q_do (by rfl) ?_
          refine q_move (v := .tuple #[.agg (bv (constM z)), .int .i64 0]) rfl rfl ?_
          refine q_do (by rfl) ?_
          refine q_extract (v := .agg (bv (constM z))) rfl rfl rfl ?_
          simp only [Act.put, List.setIfInBounds_toArray, List.set_cons_zero, List.set_cons_succ]
          refine q_do (by rfl) ?_
          refine q_extract (v := .int .i64 0) rfl rfl rfl ?_
          simp only [Act.put, List.setIfInBounds_toArray, List.set_cons_zero, List.set_cons_succ]
          intro wq2 hq2
          have hF_2 := (hF_1).trans hq2
          refine seq_do ?_
          refine wp_allocB rfl ?_
          intro ws3 hn3 hg3
          have hge3 := (hF_2).below.size
          have hF_3 := (hF_2).trans hg3
          revert hn3 hge3 
          generalize wq2.heap.size = PN3
          intro hn3 hge3 
          refine seq_do ?_
          refine wp_storeB rfl rfl rfl (hn3) ?_
          intro ws4 hs4 gx4
          have hF_4 := gx4.gr _ (hF_3) hge3
          refine seq_do ?_
          refine wp_assign (v := .int .i64 0) rfl rfl ?_
          simp only [Act.put, List.setIfInBounds_toArray, List.set_cons_zero, List.set_cons_succ]
          refine seq_end ?_
          go_upto_region 8 with fail
          refine wp_region_seqq (C := Gr ws4) (Gr.refl _) ?_
          refine q_do (by rfl) ?_
          refine q_move (v := .int .u8 k) rfl rfl ?_
          refine q_do (by rfl) ?_
          refine q_move (v := .bool false) rfl rfl ?_
          refine q_do (by rfl) ?_
          refine q_move (v := .int .u64 (iv x)) rfl rfl ?_
          simp only [Act.put, List.setIfInBounds_toArray, List.set_cons_zero, List.set_cons_succ]
          refine q_do (by rfl) ?_
          refine q_move (v := .int .u64 (iv y)) rfl rfl ?_
          refine q_do (by rfl) ?_
          refine q_call4 rfl rfl rfl rfl rfl (fun w => by go_simp) (grc (cz) (rfl)) ?_
          refine q_do (by rfl) ?_
          refine q_move (v := .tuple #[.int .u64 (iv z), .int .i64 0]) rfl rfl ?_
          simp only [Act.put, List.setIfInBounds_toArray, List.set_cons_zero, List.set_cons_succ]
          refine q_do (by rfl) ?_
          refine q_extract (v := .int .u64 (iv z)) rfl rfl rfl ?_
          refine q_do (by rfl) ?_
          refine q_extract (v := .int .i64 0) rfl rfl rfl ?_
          refine q_do (by rfl) ?_
          refine q_assign (v := .int .u64 (iv z)) rfl rfl ?_
          simp only [Act.put, List.setIfInBounds_toArray, List.set_cons_zero, List.set_cons_succ]
          refine q_do (by rfl) ?_
          refine q_assign (v := .int .i64 0) rfl rfl ?_
          simp only [Act.put, List.setIfInBounds_toArray, List.set_cons_zero, List.set_cons_succ]
          intro wq5 hq5
          have hPN3_5 := (hs4).gr hq5
          have hF_5 := (hF_4).trans hq5
          go_upto_region 9 with fail
          refine wp_region_seqq (C := Gr wq5) (Gr.refl _) ?_
          refine q_do (by rfl) ?_
          refine q_loadB rfl rfl (fun w h => (hPN3_5).gr h) ?_
          refine q_do (by rfl) ?_
          refine q_call1 rfl rfl (fun w => by go_simp) (grc (fun w => k_one1 z w) (rfl)) ?_
          refine q_do (by rfl) ?_
          refine q_move (v := .tuple #[.int .u64 (iv z), .bool true]) rfl rfl ?_
          simp only [Act.put, List.setIfInBounds_toArray, List.set_cons_zero, List.set_cons_succ]
          refine q_do (by rfl) ?_
          refine q_extract (v := .int .u64 (iv z)) rfl rfl rfl ?_
          refine q_do (by rfl) ?_
          refine q_extract (v := .bool true) rfl rfl rfl ?_
          refine q_do (by rfl) ?_
          refine q_assign (v := .int .u64 (iv z)) rfl rfl ?_
          simp only [Act.put, List.setIfInBounds_toArray, List.set_cons_zero, List.set_cons_succ]
          refine q_do (by rfl) ?_
          refine q_assign (v := .bool true) rfl rfl ?_
          simp only [Act.put, List.setIfInBounds_toArray, List.set_cons_zero, List.set_cons_succ]
          intro wq6 hq6
          have hPN3_6 := (hPN3_5).gr hq6
          have hF_6 := (hF_5).trans hq6
          go_upto_region 10 with fail
          refine wp_region_q (C := Gr wq6) (by kernel_rfl) (by kernel_rfl) (Gr.drew (Gr.refl _)) ?_
          refine q_do (by rfl) ?_
          refine q_move (v := .int .i64 0) rfl rfl ?_
          refine q_do (by rfl) ?_
          refine q_eql_er (r := true) rfl rfl rfl (rfl) ?_
          refine q_do (by rfl) ?_
          refine q_move (v := .bool true) rfl rfl ?_
          simp only [Act.put, List.setIfInBounds_toArray, List.set_cons_zero, List.set_cons_succ]
          refine q_do (by rfl) ?_
          refine q_move (v := .int .i64 0) rfl rfl ?_
          refine q_do (by rfl) ?_
          refine q_eql_er (r := true) rfl rfl rfl (rfl) ?_
          refine q_do (by rfl) ?_
          refine q_pickT (v := .bool true) rfl rfl rfl ?_
          simp only [Act.put, List.setIfInBounds_toArray, List.set_cons_zero, List.set_cons_succ]
          refine q_do (by rfl) ?_
          refine q_move (v := .bool true) rfl rfl ?_
          refine q_do (by rfl) ?_
          refine q_move (v := .bool true) rfl rfl ?_
          refine q_do (by rfl) ?_
          refine q_pickT (v := .bool true) rfl rfl rfl ?_
          simp only [Act.put, List.setIfInBounds_toArray, List.set_cons_zero, List.set_cons_succ]
          refine q_do (by rfl) ?_
          refine q_move (v := .bool true) rfl rfl ?_
          refine q_do (by rfl) ?_
          refine q_move (v := .int .u64 (iv z)) rfl rfl ?_
          refine q_do (by rfl) ?_
          refine q_move (v := .int .u64 (iv z)) rfl rfl ?_
          simp only [Act.put, List.setIfInBounds_toArray, List.set_cons_zero, List.set_cons_succ]
          refine q_do (by rfl) ?_
          refine q_eql_u64 (r := true) rfl rfl rfl (by simp) ?_
          refine q_do (by rfl) ?_
          refine q_pickT (v := .bool true) rfl rfl rfl ?_
          refine q_do (by rfl) ?_
          refine q_move (v := .bool true) rfl rfl ?_
          simp only [Act.put, List.setIfInBounds_toArray, List.set_cons_zero, List.set_cons_succ]
          refine q_do (by rfl) ?_
          refine q_loadB rfl rfl (fun w h => (hPN3_6).gr h) ?_
          refine q_do (by rfl) ?_
          refine q_move (v := .int .u64 (iv z)) rfl rfl ?_
          refine q_do (by rfl) ?_
          refine q_call1 rfl rfl (fun w => by go_simp) (grc (fun w => k_const z w) (rfl)) ?_
          simp only [Act.put, List.setIfInBounds_toArray, List.set_cons_zero, List.set_cons_succ]
          refine q_do (by rfl) ?_
          refine q_eqS (d := (constM z)) rfl rfl rfl ?_
          refine q_do (by rfl) ?_
          refine q_pickT (v := .bool true) rfl rfl rfl ?_
          refine q_do (by rfl) ?_
          refine q_move (v := .bool true) rfl rfl ?_
          simp only [Act.put, List.setIfInBounds_toArray, List.set_cons_zero, List.set_cons_succ]
          refine q_do (by rfl) ?_
          refine q_call0 rfl (fun w => by go_simp) (grc (works_any) (rfl)) ?_
          refine q_do (by rfl) ?_
          refine q_pickT (v := .bool true) rfl rfl rfl ?_
          refine q_do (by rfl) ?_
          refine q_assign (v := .bool true) rfl rfl ?_
          simp only [Act.put, List.setIfInBounds_toArray, List.set_cons_zero, List.set_cons_succ]
          intro wq7 hq7
          have hPN3_7 := (hPN3_6).gr hq7
          have hF_7 := (hF_6).trans hq7
          go_wp2
          go_ret
          exact ⟨rfl, hF_7⟩
  | true =>
    obtain ⟨ql, hl⟩ : ∃ q, ((iv y) == 0) = q := ⟨_, rfl⟩
    have hq : (q9 = false → (q3 = false ∨ ql = false) → (k ≠ 9 ∧ (k = 3 → Wd.lowV (iv y) (Wd.sz true) ≠ 0))) := by
      intro a9 a3
      subst a9
      refine ⟨fun h => (by rw [h] at h9; cases h9), fun h => ?_⟩
      rcases a3 with a3 | a3
      · rw [a3, h] at h3
        cases h3
      · rw [a3] at hl
        rw [szt, lw8]
        intro h0
        rw [h0] at hl
        cases hl
    cases q9 with
    | true =>
      go_enter Tryz.func7, Tryz.ntmps7
      go_upto_region 5 with fail
      refine wp_region_seqq (C := Gr w) (Gr.refl _) ?_
      refine q_do (by rfl) ?_
      refine q_move (v := .int .u8 k) rfl rfl ?_
      refine q_do (by rfl) ?_
      refine q_eql_u8 (r := true) rfl rfl rfl (h9) ?_
      refine q_do (by rfl) ?_
      refine q_move (v := .bool true) rfl rfl ?_
      simp only [Act.put, List.setIfInBounds_toArray, List.set_cons_zero, List.set_cons_succ]
      refine q_skip (by rfl) ?_
      refine q_skip (by rfl) ?_
      refine q_skip (by rfl) ?_
      simp only [Act.put, List.setIfInBounds_toArray, List.set_cons_zero, List.set_cons_succ]
      refine q_skip (by rfl) ?_
      refine q_skip (by rfl) ?_
      refine q_skip (by rfl) ?_
      simp only [Act.put, List.setIfInBounds_toArray, List.set_cons_zero, List.set_cons_succ]
      refine q_do (by rfl) ?_
      refine q_pickT (v := .bool true) rfl rfl rfl ?_
      simp only [Act.put, List.setIfInBounds_toArray, List.set_cons_zero, List.set_cons_succ]
      intro wq1 hq1
      have hF_1 := (Gr.refl w).trans hq1
      go_upto_region 6 with fail
      refine wp_region_seqq (C := Gr wq1) (Gr.refl _) ?_
      refine q_do (by rfl) ?_
      refine q_call0 rfl (fun w => by go_simp) (grc (works_any) (rfl)) ?_
      refine q_do (by rfl) ?_
      refine q_assign (v := .bool true) rfl rfl ?_
      simp only [Act.put, List.setIfInBounds_toArray, List.set_cons_zero, List.set_cons_succ]
      intro wq2 hq2
      have hF_2 := (hF_1).trans hq2
      go_wp2
      go_ret
      exact ⟨rfl, hF_2⟩
    | false =>
      cases q3 with
      | false =>
        go_enter Tryz.func7, Tryz.ntmps7
        go_upto_region 5 with fail
        refine wp_region_seqq (C := Gr w) (Gr.refl _) ?_
        refine q_do (by rfl) ?_
        refine q_move (v := .int .u8 k) rfl rfl ?_
        refine q_do (by rfl) ?_
        refine q_eql_u8 (r := false) rfl rfl rfl (h9) ?_
        refine q_do (by rfl) ?_
        refine q_move (v := .bool false) rfl rfl ?_
        simp only [Act.put, List.setIfInBounds_toArray, List.set_cons_zero, List.set_cons_succ]
        refine q_do (by rfl) ?_
        refine q_move (v := .int .u8 k) rfl rfl ?_
        refine q_do (by rfl) ?_
        refine q_eql_u8 (r := false) rfl rfl rfl (h3) ?_
        refine q_do (by rfl) ?_
        refine q_move (v := .bool false) rfl rfl ?_
        simp only [Act.put, List.setIfInBounds_toArray, List.set_cons_zero, List.set_cons_succ]
        refine q_skip (by rfl) ?_
        refine q_skip (by rfl) ?_
        refine q_do (by rfl) ?_
        refine q_pickF (v := .bool false) rfl rfl rfl ?_
        simp only [Act.put, List.setIfInBounds_toArray, List.set_cons_zero, List.set_cons_succ]
        refine q_do (by rfl) ?_
        refine q_pickF (v := .bool false) rfl rfl rfl ?_
        simp only [Act.put, List.setIfInBounds_toArray, List.set_cons_zero, List.set_cons_succ]
        intro wq1 hq1
        have hF_1 := (Gr.refl w).trans hq1
        obtain ⟨z, hz, C, gC, kC, hp, cC⟩ := hD
        have eC : C = constM z := hp (hq rfl (.inl rfl)) rfl rfl
        subst eC
        have cz : ∀ w, Calls Tryz.prog 29 #[.int .u8 k, .bool true, .int .u64 (iv x), .int .u64 (iv y)] w fun e w' => e = .returned (.tuple #[.int .u64 (iv z), .int .i64 0]) ∧ Gr w w' := fun w => (hA w).mono (fun e w' h => ⟨by rw [h.1, hz, hE], ⟨h.2.below, h.2.grown⟩⟩)
        clear hp hq hA hz hE
        go_upto_region 7 with fail
        refine wp_region_sqn (C := Gr wq1) 10 (by kernel_rfl) (Gr.refl _) ?_
        refine q_do (by rfl) ?_
        refine q_move (v := .int .u8 k) rfl rfl ?_
        refine q_do (by rfl) ?_
        refine q_move (v := .bool true) rfl rfl ?_
        refine q_do (by rfl) ?_
        refine q_move (v := .int .u64 (iv x)) rfl rfl ?_
        simp only [Act.put, List.setIfInBounds_toArray, List.set_cons_zero, List.set_cons_succ]
        refine q_do (by rfl) ?_
        refine q_call1 rfl rfl (fun w => by go_simp) (grc (fun w => k_const x w) (rfl)) ?_
        refine q_do (by rfl) ?_
        refine q_move (v := .int .u64 (iv y)) rfl rfl ?_
        refine q_do (by rfl) ?_
        refine q_call1 rfl rfl (fun w => by go_simp) (grc (fun w => k_const y w) (rfl)) ?_
        simp only [Act.put, List.setIfInBounds_toArray, List.set_cons_zero, List.set_cons_succ]
        refine q_do (by rfl) ?_
        refine q_call4 rfl rfl rfl rfl rfl (fun w => by go_simp) (grc (cC) (rfl)) ?_
        refine q_do (by rfl) ?_
        refine q_move (v := .tuple #[.agg (bv (constM z)), .int .i64 0]) rfl rfl ?_
        refine q_do (by rfl) ?_
        refine q_extract (v := .agg (bv (constM z))) rfl rfl rfl ?_
        simp only [Act.put, List.setIfInBounds_toArray, List.set_cons_zero, List.set_cons_succ]
        refine q_do (by rfl) ?_
        refine q_extract (v := .int .i64 0) rfl rfl rfl ?_
        simp only [Act.put, List.setIfInBounds_toArray, List.set_cons_zero, List.set_cons_succ]
        intro wq2 hq2
        have hF_2 := (hF_1).trans hq2
        refine seq_do ?_
        refine wp_allocB rfl ?_
        intro ws3 hn3 hg3
        have hge3 := (hF_2).below.size
        have hF_3 := (hF_2).trans hg3
        revert hn3 hge3 
        generalize wq2.heap.size = PN3
        intro hn3 hge3 
        refine seq_do ?_
        refine wp_storeB rfl rfl rfl (hn3) ?_
        intro ws4 hs4 gx4
        have hF_4 := gx4.gr _ (hF_3) hge3
        refine seq_do ?_
        refine wp_assign (v := .int .i64 0) rfl rfl ?_
        simp only [Act.put, List.setIfInBounds_toArray, List.set_cons_zero, List.set_cons_succ]
        refine seq_end ?_
        go_upto_region 8 with fail
        refine wp_region_seqq (C := Gr ws4) (Gr.refl _) ?_
        refine q_do (by rfl) ?_
        refine q_move (v := .int .u8 k) rfl rfl ?_
        refine q_do (by rfl) ?_
        refine q_move (v := .bool true) rfl rfl ?_
        refine q_do (by rfl) ?_
        refine q_move (v := .int .u64 (iv x)) rfl rfl ?_
        simp only [Act.put, List.setIfInBounds_toArray, List.set_cons_zero, List.set_cons_succ]
        refine q_do (by rfl) ?_
        refine q_move (v := .int .u64 (iv y)) rfl rfl ?_
        refine q_do (by rfl) ?_
        refine q_call4 rfl rfl rfl rfl rfl (fun w => by go_simp) (grc (cz) (rfl)) ?_
        refine q_do (by rfl) ?_
        refine q_move (v := .tuple #[.int .u64 (iv z), .int .i64 0]) rfl rfl ?_
        simp only [Act.put, List.setIfInBounds_toArray, List.set_cons_zero, List.set_cons_succ]
        refine q_do (by rfl) ?_
        refine q_extract (v := .int .u64 (iv z)) rfl rfl rfl ?_
        refine q_do (by rfl) ?_
        refine q_extract (v := .int .i64 0) rfl rfl rfl ?_
        refine q_do (by rfl) ?_
        refine q_assign (v := .int .u64 (iv z)) rfl rfl ?_
        simp only [Act.put, List.setIfInBounds_toArray, List.set_cons_zero, List.set_cons_succ]
        refine q_do (by rfl) ?_
        refine q_assign (v := .int .i64 0) rfl rfl ?_
        simp only [Act.put, List.setIfInBounds_toArray, List.set_cons_zero, List.set_cons_succ]
        intro wq5 hq5
        have hPN3_5 := (hs4).gr hq5
        have hF_5 := (hF_4).trans hq5
        go_upto_region 9 with fail
        refine wp_region_seqq (C := Gr wq5) (Gr.refl _) ?_
        refine q_do (by rfl) ?_
        refine q_loadB rfl rfl (fun w h => (hPN3_5).gr h) ?_
        refine q_do (by rfl) ?_
        refine q_call1 rfl rfl (fun w => by go_simp) (grc (fun w => k_one1 z w) (rfl)) ?_
        refine q_do (by rfl) ?_
        refine q_move (v := .tuple #[.int .u64 (iv z), .bool true]) rfl rfl ?_
        simp only [Act.put, List.setIfInBounds_toArray, List.set_cons_zero, List.set_cons_succ]
        refine q_do (by rfl) ?_
        refine q_extract (v := .int .u64 (iv z)) rfl rfl rfl ?_
        refine q_do (by rfl) ?_
        refine q_extract (v := .bool true) rfl rfl rfl ?_
        refine q_do (by rfl) ?_
        refine q_assign (v := .int .u64 (iv z)) rfl rfl ?_
        simp only [Act.put, List.setIfInBounds_toArray, List.set_cons_zero, List.set_cons_succ]
        refine q_do (by rfl) ?_
        refine q_assign (v := .bool true) rfl rfl ?_
        simp only [Act.put, List.setIfInBounds_toArray, List.set_cons_zero, List.set_cons_succ]
        intro wq6 hq6
        have hPN3_6 := (hPN3_5).gr hq6
        have hF_6 := (hF_5).trans hq6
        go_upto_region 10 with fail
        refine wp_region_q (C := Gr wq6) (by kernel_rfl) (by kernel_rfl) (Gr.drew (Gr.refl _)) ?_
        refine q_do (by rfl) ?_
        refine q_move (v := .int .i64 0) rfl rfl ?_
        refine q_do (by rfl) ?_
        refine q_eql_er (r := true) rfl rfl rfl (rfl) ?_
        refine q_do (by rfl) ?_
        refine q_move (v := .bool true) rfl rfl ?_
        simp only [Act.put, List.setIfInBounds_toArray, List.set_cons_zero, List.set_cons_succ]
        refine q_do (by rfl) ?_
        refine q_move (v := .int .i64 0) rfl rfl ?_
        refine q_do (by rfl) ?_
        refine q_eql_er (r := true) rfl rfl rfl (rfl) ?_
        refine q_do (by rfl) ?_
        refine q_pickT (v := .bool true) rfl rfl rfl ?_
        simp only [Act.put, List.setIfInBounds_toArray, List.set_cons_zero, List.set_cons_succ]
        refine q_do (by rfl) ?_
        refine q_move (v := .bool true) rfl rfl ?_
        refine q_do (by rfl) ?_
        refine q_move (v := .bool true) rfl rfl ?_
        refine q_do (by rfl) ?_
        refine q_pickT (v := .bool true) rfl rfl rfl ?_
        simp only [Act.put, List.setIfInBounds_toArray, List.set_cons_zero, List.set_cons_succ]
        refine q_do (by rfl) ?_
        refine q_move (v := .bool true) rfl rfl ?_
        refine q_do (by rfl) ?_
        refine q_move (v := .int .u64 (iv z)) rfl rfl ?_
        refine q_do (by rfl) ?_
        refine q_move (v := .int .u64 (iv z)) rfl rfl ?_
        simp only [Act.put, List.setIfInBounds_toArray, List.set_cons_zero, List.set_cons_succ]
        refine q_do (by rfl) ?_
        refine q_eql_u64 (r := true) rfl rfl rfl (by simp) ?_
        refine q_do (by rfl) ?_
        refine q_pickT (v := .bool true) rfl rfl rfl ?_
        refine q_do (by rfl) ?_
        refine q_move (v := .bool true) rfl rfl ?_
        simp only [Act.put, List.setIfInBounds_toArray, List.set_cons_zero, List.set_cons_succ]
        refine q_do (by rfl) ?_
        refine q_loadB rfl rfl (fun w h => (hPN3_6).gr h) ?_
        refine q_do (by rfl) ?_
        refine q_move (v := .int .u64 (iv z)) rfl rfl ?_
        refine q_do (by rfl) ?_
        refine q_call1 rfl rfl (fun w => by go_simp) (grc (fun w => k_const z w) (rfl)) ?_
        simp only [Act.put, List.setIfInBounds_toArray, List.set_cons_zero, List.set_cons_succ]
        refine q_do (by rfl) ?_
        refine q_eqS (d := (constM z)) rfl rfl rfl ?_
        refine q_do (by rfl) ?_
        refine q_pickT (v := .bool true) rfl rfl rfl ?_
        refine q_do (by rfl) ?_
        refine q_move (v := .bool true) rfl rfl ?_
        simp only [Act.put, List.setIfInBounds_toArray, List.set_cons_zero, List.set_cons_succ]
        refine q_do (by rfl) ?_
        refine q_call0 rfl (fun w => by go_simp) (grc (works_any) (rfl)) ?_
        refine q_do (by rfl) ?_
        refine q_pickT (v := .bool true) rfl rfl rfl ?_
        refine q_do (by rfl) ?_
        refine q_assign (v := .bool true) rfl rfl ?_
        simp only [Act.put, List.setIfInBounds_toArray, List.set_cons_zero, List.set_cons_succ]
        intro wq7 hq7
        have hPN3_7 := (hPN3_6).gr hq7
        have hF_7 := (hF_6).trans hq7
        go_wp2
        go_ret
        exact ⟨rfl, hF_7⟩
      | true =>
        cases ql with
        | true =>
          go_enter Tryz.func7, Tryz.ntmps7
          go_upto_region 5 with fail
          refine wp_region_seqq (C := Gr w) (Gr.refl _) ?_
          refine q_do (by rfl) ?_
          refine q_move (v := .int .u8 k) rfl rfl ?_
          refine q_do (by rfl) ?_
          refine q_eql_u8 (r := false) rfl rfl rfl (h9) ?_
          refine q_do (by rfl) ?_
          refine q_move (v := .bool false) rfl rfl ?_
          simp only [Act.put, List.setIfInBounds_toArray, List.set_cons_zero, List.set_cons_succ]
          refine q_do (by rfl) ?_
          refine q_move (v := .int .u8 k) rfl rfl ?_
          refine q_do (by rfl) ?_
          refine q_eql_u8 (r := true) rfl rfl rfl (h3) ?_
          refine q_do (by rfl) ?_
          refine q_move (v := .bool true) rfl rfl ?_
          simp only [Act.put, List.setIfInBounds_toArray, List.set_cons_zero, List.set_cons_succ]
          refine q_do (by rfl) ?_
          refine q_move (v := .int .u64 (iv y)) rfl rfl ?_
          refine q_do (by rfl) ?_
          refine q_eql_u64 (r := true) rfl rfl rfl (hl) ?_
          refine q_do (by rfl) ?_
          refine q_pickT (v := .bool true) rfl rfl rfl ?_
          simp only [Act.put, List.setIfInBounds_toArray, List.set_cons_zero, List.set_cons_succ]
          refine q_do (by rfl) ?_
          refine q_pickF (v := .bool true) rfl rfl rfl ?_
          simp only [Act.put, List.setIfInBounds_toArray, List.set_cons_zero, List.set_cons_succ]
          intro wq1 hq1
          have hF_1 := (Gr.refl w).trans hq1
          go_upto_region 6 with fail
          refine wp_region_seqq (C := Gr wq1) (Gr.refl _) ?_
          refine q_do (by rfl) ?_
          refine q_call0 rfl (fun w => by go_simp) (grc (works_any) (rfl)) ?_
          refine q_do (by rfl) ?_
          refine q_assign (v := .bool true) rfl rfl ?_
          simp only [Act.put, List.setIfInBounds_toArray, List.set_cons_zero, List.set_cons_succ]
          intro wq2 hq2
          have hF_2 := (hF_1).trans hq2
          go_wp2
          go_ret
          exact ⟨rfl, hF_2⟩
        | false =>
          go_enter Tryz.func7, Tryz.ntmps7
          go_upto_region 5 with fail
          refine wp_region_seqq (C := Gr w) (Gr.refl _) ?_
          refine q_do (by rfl) ?_
          refine q_move (v := .int .u8 k) rfl rfl ?_
          refine q_do (by rfl) ?_
          refine q_eql_u8 (r := false) rfl rfl rfl (h9) ?_
          refine q_do (by rfl) ?_
          refine q_move (v := .bool false) rfl rfl ?_
          simp only [Act.put, List.setIfInBounds_toArray, List.set_cons_zero, List.set_cons_succ]
          refine q_do (by rfl) ?_
          refine q_move (v := .int .u8 k) rfl rfl ?_
          refine q_do (by rfl) ?_
          refine q_eql_u8 (r := true) rfl rfl rfl (h3) ?_
          refine q_do (by rfl) ?_
          refine q_move (v := .bool true) rfl rfl ?_
          simp only [Act.put, List.setIfInBounds_toArray, List.set_cons_zero, List.set_cons_succ]
          refine q_do (by rfl) ?_
          refine q_move (v := .int .u64 (iv y)) rfl rfl ?_
          refine q_do (by rfl) ?_
          refine q_eql_u64 (r := false) rfl rfl rfl (hl) ?_
          refine q_do (by rfl) ?_
          refine q_pickT (v := .bool false) rfl rfl rfl ?_
          simp only [Act.put, List.setIfInBounds_toArray, List.set_cons_zero, List.set_cons_succ]
          refine q_do (by rfl) ?_
          refine q_pickF (v := .bool false) rfl rfl rfl ?_
          simp only [Act.put, List.setIfInBounds_toArray, List.set_cons_zero, List.set_cons_succ]
          intro wq1 hq1
          have hF_1 := (Gr.refl w).trans hq1
          obtain ⟨z, hz, C, gC, kC, hp, cC⟩ := hD
          have eC : C = constM z := hp (hq rfl (.inr rfl)) rfl rfl
          subst eC
          have cz : ∀ w, Calls Tryz.prog 29 #[.int .u8 k, .bool true, .int .u64 (iv x), .int .u64 (iv y)] w fun e w' => e = .returned (.tuple #[.int .u64 (iv z), .int .i64 0]) ∧ Gr w w' := fun w => (hA w).mono (fun e w' h => ⟨by rw [h.1, hz, hE], ⟨h.2.below, h.2.grown⟩⟩)
          clear hp hq hA hz hE
          go_upto_region 7 with fail
          refine wp_region_sqn (C := Gr wq1) 10 (by kernel_rfl) (Gr.refl _) ?_
          refine q_do (by rfl) ?_
          refine q_move (v := .int .u8 k) rfl rfl ?_
          refine q_do (by rfl) ?_
          refine q_move (v := .bool true) rfl rfl ?_
          refine q_do (by rfl) ?_
          refine q_move (v := .int .u64 (iv x)) rfl rfl ?_
          simp only [Act.put, List.setIfInBounds_toArray, List.set_cons_zero, List.set_cons_succ]
          refine q_do (by rfl) ?_
          refine q_call1 rfl rfl (fun w => by go_simp) (grc (fun w => k_const x w) (rfl)) ?_
          refine q_do (by rfl) ?_
          refine q_move (v := .int .u64 (iv y)) rfl rfl ?_
          refine q_do (by rfl) ?_
          refine q_call1 rfl rfl (fun w => by go_simp) (grc (fun w => k_const y w) (rfl)) ?_
          simp only [Act.put, List.setIfInBounds_toArray, List.set_cons_zero, List.set_cons_succ]
          refine q_do (by rfl) ?_
          refine q_call4 rfl rfl rfl rfl rfl (fun w => by go_simp) (grc (cC) (rfl)) ?_
          refine q_do (by rfl) ?_
          refine q_move (v := .tuple #[.agg (bv (constM z)), .int .i64 0]) rfl rfl ?_
          refine q_do (by rfl) ?_
          refine q_extract (v := .agg (bv (constM z))) rfl rfl rfl ?_
          simp only [Act.put, List.setIfInBounds_toArray, List.set_cons_zero, List.set_cons_succ]
          refine q_do (by rfl) ?_
          refine q_extract (v := .int .i64 0) rfl rfl rfl ?_
          simp only [Act.put, List.setIfInBounds_toArray, List.set_cons_zero, List.set_cons_succ]
          intro wq2 hq2
          have hF_2 := (hF_1).trans hq2
          refine seq_do ?_
          refine wp_allocB rfl ?_
          intro ws3 hn3 hg3
          have hge3 := (hF_2).below.size
          have hF_3 := (hF_2).trans hg3
          revert hn3 hge3 
          generalize wq2.heap.size = PN3
          intro hn3 hge3 
          refine seq_do ?_
          refine wp_storeB rfl rfl rfl (hn3) ?_
          intro ws4 hs4 gx4
          have hF_4 := gx4.gr _ (hF_3) hge3
          refine seq_do ?_
          refine wp_assign (v := .int .i64 0) rfl rfl ?_
          simp only [Act.put, List.setIfInBounds_toArray, List.set_cons_zero, List.set_cons_succ]
          refine seq_end ?_
          go_upto_region 8 with fail
          refine wp_region_seqq (C := Gr ws4) (Gr.refl _) ?_
          refine q_do (by rfl) ?_
          refine q_move (v := .int .u8 k) rfl rfl ?_
          refine q_do (by rfl) ?_
          refine q_move (v := .bool true) rfl rfl ?_
          refine q_do (by rfl) ?_
          refine q_move (v := .int .u64 (iv x)) rfl rfl ?_
          simp only [Act.put, List.setIfInBounds_toArray, List.set_cons_zero, List.set_cons_succ]
          refine q_do (by rfl) ?_
          refine q_move (v := .int .u64 (iv y)) rfl rfl ?_
          refine q_do (by rfl) ?_
          refine q_call4 rfl rfl rfl rfl rfl (fun w => by go_simp) (grc (cz) (rfl)) ?_
          refine q_do (by rfl) ?_
          refine q_move (v := .tuple #[.int .u64 (iv z), .int .i64 0]) rfl rfl ?_
          simp only [Act.put, List.setIfInBounds_toArray, List.set_cons_zero, List.set_cons_succ]
          refine q_do (by rfl) ?_
          refine q_extract (v := .int .u64 (iv z)) rfl rfl rfl ?_
          refine q_do (by rfl) ?_
          refine q_extract (v := .int .i64 0) rfl rfl rfl ?_
          refine q_do (by rfl) ?_
          refine q_assign (v := .int .u64 (iv z)) rfl rfl ?_
          simp only [Act.put, List.setIfInBounds_toArray, List.set_cons_zero, List.set_cons_succ]
          refine q_do (by rfl) ?_
          refine q_assign (v := .int .i64 0) rfl rfl ?_
          simp only [Act.put, List.setIfInBounds_toArray, List.set_cons_zero, List.set_cons_succ]
          intro wq5 hq5
          have hPN3_5 := (hs4).gr hq5
          have hF_5 := (hF_4).trans hq5
          go_upto_region 9 with fail
          refine wp_region_seqq (C := Gr wq5) (Gr.refl _) ?_
          refine q_do (by rfl) ?_
          refine q_loadB rfl rfl (fun w h => (hPN3_5).gr h) ?_
          refine q_do (by rfl) ?_
          refine q_call1 rfl rfl (fun w => by go_simp) (grc (fun w => k_one1 z w) (rfl)) ?_
          refine q_do (by rfl) ?_
          refine q_move (v := .tuple #[.int .u64 (iv z), .bool true]) rfl rfl ?_
          simp only [Act.put, List.setIfInBounds_toArray, List.set_cons_zero, List.set_cons_succ]
          refine q_do (by rfl) ?_
          refine q_extract (v := .int .u64 (iv z)) rfl rfl rfl ?_
          refine q_do (by rfl) ?_
          refine q_extract (v := .bool true) rfl rfl rfl ?_
          refine q_do (by rfl) ?_
          refine q_assign (v := .int .u64 (iv z)) rfl rfl ?_
          simp only [Act.put, List.setIfInBounds_toArray, List.set_cons_zero, List.set_cons_succ]
          refine q_do (by rfl) ?_
          refine q_assign (v := .bool true) rfl rfl ?_
          simp only [Act.put, List.setIfInBounds_toArray, List.set_cons_zero, List.set_cons_succ]
          intro wq6 hq6
          have hPN3_6 := (hPN3_5).gr hq6
          have hF_6 := (hF_5).trans hq6
          go_upto_region 10 with fail
          refine wp_region_q (C := Gr wq6) (by kernel_rfl) (by kernel_rfl) (Gr.drew (Gr.refl _)) ?_
          refine q_do (by rfl) ?_
          refine q_move (v := .int .i64 0) rfl rfl ?_
          refine q_do (by rfl) ?_
          refine q_eql_er (r := true) rfl rfl rfl (rfl) ?_
          refine q_do (by rfl) ?_
          refine q_move (v := .bool true) rfl rfl ?_
          simp only [Act.put, List.setIfInBounds_toArray, List.set_cons_zero, List.set_cons_succ]
          refine q_do (by rfl) ?_
          refine q_move (v := .int .i64 0) rfl rfl ?_
          refine q_do (by rfl) ?_
          refine q_eql_er (r := true) rfl rfl rfl (rfl) ?_
          refine q_do (by rfl) ?_
          refine q_pickT (v := .bool true) rfl rfl rfl ?_
          simp only [Act.put, List.setIfInBounds_toArray, List.set_cons_zero, List.set_cons_succ]
          refine q_do (by rfl) ?_
          refine q_move (v := .bool true) rfl rfl ?_
          refine q_do (by rfl) ?_
          refine q_move (v := .bool true) rfl rfl ?_
          refine q_do (by rfl) ?_
          refine q_pickT (v := .bool true) rfl rfl rfl ?_
          simp only [Act.put, List.setIfInBounds_toArray, List.set_cons_zero, List.set_cons_succ]
          refine q_do (by rfl) ?_
          refine q_move (v := .bool true) rfl rfl ?_
          refine q_do (by rfl) ?_
          refine q_move (v := .int .u64 (iv z)) rfl rfl ?_
          refine q_do (by rfl) ?_
          refine q_move (v := .int .u64 (iv z)) rfl rfl ?_
          simp only [Act.put, List.setIfInBounds_toArray, List.set_cons_zero, List.set_cons_succ]
          refine q_do (by rfl) ?_
          refine q_eql_u64 (r := true) rfl rfl rfl (by simp) ?_
          refine q_do (by rfl) ?_
          refine q_pickT (v := .bool true) rfl rfl rfl ?_
          refine q_do (by rfl) ?_
          refine q_move (v := .bool true) rfl rfl ?_
          simp only [Act.put, List.setIfInBounds_toArray, List.set_cons_zero, List.set_cons_succ]
          refine q_do (by rfl) ?_
          refine q_loadB rfl rfl (fun w h => (hPN3_6).gr h) ?_
          refine q_do (by rfl) ?_
          refine q_move (v := .int .u64 (iv z)) rfl rfl ?_
          refine q_do (by rfl) ?_
          refine q_call1 rfl rfl (fun w => by go_simp) (grc (fun w => k_const z w) (rfl)) ?_
          simp only [Act.put, List.setIfInBounds_toArray, List.set_cons_zero, List.set_cons_succ]
          refine q_do (by rfl) ?_
          refine q_eqS (d := (constM z)) rfl rfl rfl ?_
          refine q_do (by rfl) ?_
          refine q_pickT (v := .bool true) rfl rfl rfl ?_
          refine q_do (by rfl) ?_
          refine q_move (v := .bool true) rfl rfl ?_
          simp only [Act.put, List.setIfInBounds_toArray, List.set_cons_zero, List.set_cons_succ]
          refine q_do (by rfl) ?_
          refine q_call0 rfl (fun w => by go_simp) (grc (works_any) (rfl)) ?_
          refine q_do (by rfl) ?_
          refine q_pickT (v := .bool true) rfl rfl rfl ?_
          refine q_do (by rfl) ?_
          refine q_assign (v := .bool true) rfl rfl ?_
          simp only [Act.put, List.setIfInBounds_toArray, List.set_cons_zero, List.set_cons_succ]
          intro wq7 hq7
          have hPN3_7 := (hPN3_6).gr hq7
          have hF_7 := (hF_6).trans hq7
          go_wp2
          go_ret
          exact ⟨rfl, hF_7⟩
end Go.Proofs.YtekenpgagfmgkaaGreat
