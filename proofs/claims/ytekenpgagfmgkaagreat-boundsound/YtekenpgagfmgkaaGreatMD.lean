/- Towards the statements of package bound (layer 5): sums and differences of bounds. Towards the statements of package bound (layer 5): a span alone; by how many bits one is shifted; shifts, quotients, rests, the negative one, the other one. Towards the statements of package bound (layer 5): the lowest bits of a bound. Towards the statements of package bound (layer 5): what is done with lower halves. -/
import Derived.Test.YtekenpgagfmgkaaGreatMC
import Derived.Deep.DeepCutAuto
section
namespace Go.Proofs.YtekenpgagfmgkaaGreat
open Go.ChangeShapes Go.WideShapes Go.ChangeAt Go.RowKit
open Tn (iv)
set_option linter.unusedVariables false
set_option linter.unusedSimpArgs false
set_option maxRecDepth 20000

theorem iv_addm (x y : BitVec 64) : iv (x + y) = (iv x + iv y) % 18446744073709551616 := by
  unfold Tn.iv
  rw [BitVec.toNat_add]
  omega
theorem iv_subm (x y : BitVec 64) : iv (x - y) = (iv x - iv y) % 18446744073709551616 := by
  unfold Tn.iv
  rw [BitVec.toNat_sub]
  have := x.isLt
  have := y.isLt
  omega
theorem hw_add {X Y Z : Int} (e : Z = (X + Y) % 18446744073709551616) : (IntKind.u64.wrap (X % 4294967296 + Y % 4294967296)) % 4294967296 = Z % 4294967296 := by
  rw [IntKind.wrap_u64]
  omega
theorem hv_add {X Y Z : Int} (e : Z = (X + Y) % 18446744073709551616) : wrap64 (sg X + sg Y) % 4294967296 = Z % 4294967296 := by
  unfold wrap64 sg
  omega
theorem hs_add {X Y Z : Int} (e : Z = (X + Y) % 18446744073709551616) : wrap64 (wrap64 X + wrap64 Y) = wrap64 Z := by
  rw [e]
  unfold wrap64
  omega
theorem hw_sub {X Y Z : Int} (e : Z = (X - Y) % 18446744073709551616) : (IntKind.u64.wrap (X % 4294967296 - Y % 4294967296)) % 4294967296 = Z % 4294967296 := by
  rw [IntKind.wrap_u64]
  omega
theorem hv_sub {X Y Z : Int} (e : Z = (X - Y) % 18446744073709551616) : wrap64 (sg X - sg Y) % 4294967296 = Z % 4294967296 := by
  unfold wrap64 sg
  omega
theorem hs_sub {X Y Z : Int} (e : Z = (X - Y) % 18446744073709551616) : wrap64 (wrap64 X - wrap64 Y) = wrap64 Z := by
  rw [e]
  unfold wrap64
  omega
theorem wr64 (z : Int) : IntKind.u64.wrap z = z % 18446744073709551616 := by
  rw [IntKind.wrap_u64]
set_option maxHeartbeats 4000000 in
theorem d_add {a b : Bd} {x y : BitVec 64} (ga : Good a) (gb : Good b) (ka : Has a x) (kb : Has b y) : Deed 121 a b x y (x + y) True := by
  have e := iv_addm x y
  obtain ⟨ul, uh, u1, u2, u3, u4, cu⟩ := e_add ga.iu0 ga.iu1 gb.iu0 gb.iu1 ka.u0 ka.u1 kb.u0 kb.u1
  obtain ⟨sl, sh, s1, s2, s3, s4, cs⟩ := e_plus ga.is0 ga.is1 gb.is0 gb.is1 ka.s0 ka.s1 kb.s0 kb.s1
  obtain ⟨wa, wb, w1, w2, w3, w4, cw⟩ := e_add ga.iw0 ga.iw1 gb.iw0 gb.iw1 ka.w0 ka.w1 kb.w0 kb.w1
  obtain ⟨wl, wh, w5, w6, w7, ch⟩ := e_half (z := iv (x + y)) w1 w2 w3 w4 (hw_add e)
  obtain ⟨va, vb, v1, v2, v3, v4, cv⟩ := e_plus ga.iv0 ga.iv1 gb.iv0 gb.iv1 ka.v0 ka.v1 kb.v0 kb.v1
  obtain ⟨vl, vh, v5, v6, v7, ci⟩ := e_shalf (z := iv (x + y)) v3 v4 (hv_add e)
  rw [wr64, ← e] at u3 u4
  rw [hs_add e] at s3 s4
  have hk : Has (⟨Tn.Tn.addV a.tv a.tm b.tv b.tm, Tn.Tn.addU a.tv a.tm b.tv b.tm, ul, uh, sl, sh, wl, wh, vl, vh⟩ : Bd) (x + y) := ⟨t_of (Tn.add_ok _ _ _ _) (Tn.Tn.add_sound ga.ok gb.ok ka.th kb.th), u3, u4, s3, s4, w6, w7, v6, v7⟩
  have hg : Good (⟨Tn.Tn.addV a.tv a.tm b.tv b.tm, Tn.Tn.addU a.tv a.tm b.tv b.tm, ul, uh, sl, sh, wl, wh, vl, vh⟩ : Bd) := good_by (Tn.add_ok _ _ _ _) hk u1.1 u2.2 s1.1 s2.2 w5.1 w5.2 v5.1 v5.2
  have csy := fun w => k_sync (⟨Tn.Tn.addV a.tv a.tm b.tv b.tm, Tn.Tn.addU a.tv a.tm b.tv b.tm, ul, uh, sl, sh, wl, wh, vl, vh⟩ : Bd) w hg
  generalize hrs : syncM (⟨Tn.Tn.addV a.tv a.tm b.tv b.tm, Tn.Tn.addU a.tv a.tm b.tv b.tm, ul, uh, sl, sh, wl, wh, vl, vh⟩ : Bd) = RS at csy
  refine deed_of hg hk (fun _ pa pb => .inl ?_) (fun w => ?_)
  · show Tn.Tn.addU a.tv a.tm b.tv b.tm = 0#64
    rw [show a.tm = 0#64 by rw [pa]; rfl, show b.tm = 0#64 by rw [pb]; rfl]
    unfold Tn.Tn.addU
    ext i hi
    simp
  rw [hrs]
  go_enter Tryz.func121, Tryz.ntmps121
  go_upto_region 1 with fail
  have HA : AtA (((w.alloc (.cells (bv a) 30)).alloc (.cells (bv b) 30)).alloc (.cells (bv zeroM) 30)) w.heap.size (bv a) 30 := ((AtA.newb _ rfl _ _).alloc _).alloc _
  have HB : AtA (((w.alloc (.cells (bv a) 30)).alloc (.cells (bv b) 30)).alloc (.cells (bv zeroM) 30)) (w.heap.size + 1) (bv b) 30 := (AtA.newb _ (by simp) _ _).alloc _
  have HR : AtA (((w.alloc (.cells (bv a) 30)).alloc (.cells (bv b) 30)).alloc (.cells (bv zeroM) 30)) (w.heap.size + 1 + 1) (bv zeroM) 30 := AtA.newb _ (by simp) _ _
  have HF : Gr w (((w.alloc (.cells (bv a) 30)).alloc (.cells (bv b) 30)).alloc (.cells (bv zeroM) 30)) := Gr.alloc (Gr.alloc (Gr.alloc (Gr.refl w) _ _) _ _) _ _
  have nAR : w.heap.size ≠ w.heap.size + 1 + 1 := by omega
  have nBR : w.heap.size + 1 ≠ w.heap.size + 1 + 1 := by omega
  have hPR : w.heap.size ≤ w.heap.size + 1 + 1 := by omega
  revert HA HB HR HF nAR nBR hPR
  rw [bv_zero]
  generalize (((w.alloc (.cells (bv a) 30)).alloc (.cells (bv b) 30)).alloc (.cells _ 30)) = W0
  generalize w.heap.size + 1 + 1 = PR
  generalize w.heap.size + 1 = PB
  generalize hw0 : w.heap.size = PA
  intro HA HB HR HF nAR nBR hPR
  rw [← hw0] at hPR
  rw [← bv_zero] at HR
  refine wp_region_qln (C := Gr W0) 29 (by kernel_rfl) (by kernel_rfl) (by kernel_rfl) (by kernel_rfl) (by kernel_rfl) (Gr.drew (Gr.refl _)) ?_
  refine q_do (by rfl) ?_
  refine q_fa0 rfl rfl ?_
  refine q_do (by rfl) ?_
  refine q_pT rfl rfl (fun w h => (HA).gr h) rfl rfl ?_
  refine q_do (by rfl) ?_
  refine q_fa0 rfl rfl ?_
  simp only [Act.put, List.setIfInBounds_toArray, List.set_cons_zero, List.set_cons_succ]
  refine q_do (by rfl) ?_
  refine q_pT rfl rfl (fun w h => (HB).gr h) rfl rfl ?_
  refine q_do (by rfl) ?_
  refine q_call2 rfl rfl rfl (fun w => by go_simp) (grc (fun w => Go.Proofs.YtekenpgagfmgkaaGreat.cv (Tn.add_any a.tv a.tm b.tv b.tm w)) (rfl)) ?_
  refine q_do (by rfl) ?_
  refine q_fa1 rfl rfl ?_
  simp only [Act.put, List.setIfInBounds_toArray, List.set_cons_zero, List.set_cons_succ]
  refine q_do (by rfl) ?_
  refine q_pU rfl rfl (fun w h => (HA).gr h) rfl rfl ?_
  refine q_do (by rfl) ?_
  refine q_fa1 rfl rfl ?_
  refine q_do (by rfl) ?_
  refine q_pU rfl rfl (fun w h => (HB).gr h) rfl rfl ?_
  simp only [Act.put, List.setIfInBounds_toArray, List.set_cons_zero, List.set_cons_succ]
  refine q_do (by rfl) ?_
  refine q_call2 rfl rfl rfl (fun w => by go_simp) (grc (cu) (rfl)) ?_
  refine q_do (by rfl) ?_
  refine q_fa2 rfl rfl ?_
  refine q_do (by rfl) ?_
  refine q_pS rfl rfl (fun w h => (HA).gr h) rfl rfl ?_
  simp only [Act.put, List.setIfInBounds_toArray, List.set_cons_zero, List.set_cons_succ]
  refine q_do (by rfl) ?_
  refine q_fa2 rfl rfl ?_
  refine q_do (by rfl) ?_
  refine q_pS rfl rfl (fun w h => (HB).gr h) rfl rfl ?_
  refine q_do (by rfl) ?_
  refine q_call2 rfl rfl rfl (fun w => by go_simp) (grc (cs) (rfl)) ?_
  simp only [Act.put, List.setIfInBounds_toArray, List.set_cons_zero, List.set_cons_succ]
  refine q_do (by rfl) ?_
  refine q_fa3 rfl rfl ?_
  refine q_do (by rfl) ?_
  refine q_pU rfl rfl (fun w h => (HA).gr h) rfl rfl ?_
  refine q_do (by rfl) ?_
  refine q_fa3 rfl rfl ?_
  simp only [Act.put, List.setIfInBounds_toArray, List.set_cons_zero, List.set_cons_succ]
  refine q_do (by rfl) ?_
  refine q_pU rfl rfl (fun w h => (HB).gr h) rfl rfl ?_
  refine q_do (by rfl) ?_
  refine q_call2 rfl rfl rfl (fun w => by go_simp) (grc (cw) (rfl)) ?_
  refine q_do (by rfl) ?_
  refine q_call1 rfl rfl (fun w => by go_simp) (grc (ch) (rfl)) ?_
  simp only [Act.put, List.setIfInBounds_toArray, List.set_cons_zero, List.set_cons_succ]
  refine q_do (by rfl) ?_
  refine q_fa4 rfl rfl ?_
  refine q_do (by rfl) ?_
  refine q_pS rfl rfl (fun w h => (HA).gr h) rfl rfl ?_
  refine q_do (by rfl) ?_
  refine q_fa4 rfl rfl ?_
  simp only [Act.put, List.setIfInBounds_toArray, List.set_cons_zero, List.set_cons_succ]
  refine q_do (by rfl) ?_
  refine q_pS rfl rfl (fun w h => (HB).gr h) rfl rfl ?_
  refine q_do (by rfl) ?_
  refine q_call2 rfl rfl rfl (fun w => by go_simp) (grc (cv) (rfl)) ?_
  refine q_do (by rfl) ?_
  refine q_call1 rfl rfl (fun w => by go_simp) (grc (ci) (rfl)) ?_
  simp only [Act.put, List.setIfInBounds_toArray, List.set_cons_zero, List.set_cons_succ]
  refine q_do (by rfl) ?_
  refine q_buildB rfl rfl rfl rfl rfl rfl ?_
  refine q_do (by rfl) ?_
  refine q_call1 rfl rfl (fun w => by go_simp) (grc (csy) (rfl)) ?_
  simp only [Act.put, List.setIfInBounds_toArray, List.set_cons_zero, List.set_cons_succ]
  intro wq1 hq1
  have hPA_1 := (HA).gr hq1
  have hPB_1 := (HB).gr hq1
  have hPR_1 := (HR).gr hq1
  have hF_1 := (HF).trans hq1
  refine seq_do ?_
  refine wp_storeB rfl rfl rfl (hPR_1) ?_
  intro ws2 hs2 gx2
  have hPA_2 := (hPA_1).grx gx2 nAR
  have hPB_2 := (hPB_1).grx gx2 nBR
  have hF_2 := gx2.gr _ (hF_1) hPR
  simp only [Act.put, List.setIfInBounds_toArray, List.set_cons_zero, List.set_cons_succ]
  refine seq_end ?_
  obtain ⟨r0, r1, r2, r3, r4, r5, r6, r7, r8, r9⟩ := cells_bv (hs2)
  go_wp2
  refine bodyPost_ret (by simp [results, Tryz.results121, go_sem, r0, r1, r2, r3, r4, r5, r6, r7, r8, r9]; try rfl) rfl ?_
  exact ⟨rfl, hF_2⟩
set_option maxHeartbeats 4000000 in
theorem d_sub {a b : Bd} {x y : BitVec 64} (ga : Good a) (gb : Good b) (ka : Has a x) (kb : Has b y) : Deed 122 a b x y (x - y) True := by
  have e := iv_subm x y
  obtain ⟨ul, uh, u1, u2, u3, u4, cu⟩ := e_sub ga.iu0 ga.iu1 gb.iu0 gb.iu1 ka.u0 ka.u1 kb.u0 kb.u1
  obtain ⟨sl, sh, s1, s2, s3, s4, cs⟩ := e_minus ga.is0 ga.is1 gb.is0 gb.is1 ka.s0 ka.s1 kb.s0 kb.s1
  obtain ⟨wa, wb, w1, w2, w3, w4, cw⟩ := e_sub ga.iw0 ga.iw1 gb.iw0 gb.iw1 ka.w0 ka.w1 kb.w0 kb.w1
  obtain ⟨wl, wh, w5, w6, w7, ch⟩ := e_half (z := iv (x - y)) w1 w2 w3 w4 (hw_sub e)
  obtain ⟨va, vb, v1, v2, v3, v4, cv⟩ := e_minus ga.iv0 ga.iv1 gb.iv0 gb.iv1 ka.v0 ka.v1 kb.v0 kb.v1
  obtain ⟨vl, vh, v5, v6, v7, ci⟩ := e_shalf (z := iv (x - y)) v3 v4 (hv_sub e)
  rw [wr64, ← e] at u3 u4
  rw [hs_sub e] at s3 s4
  have hk : Has (⟨Tn.Tn.subV a.tv a.tm b.tv b.tm, Tn.Tn.subU a.tv a.tm b.tv b.tm, ul, uh, sl, sh, wl, wh, vl, vh⟩ : Bd) (x - y) := ⟨t_of (Tn.sub_ok _ _ _ _) (Tn.Tn.sub_sound ga.ok gb.ok ka.th kb.th), u3, u4, s3, s4, w6, w7, v6, v7⟩
  have hg : Good (⟨Tn.Tn.subV a.tv a.tm b.tv b.tm, Tn.Tn.subU a.tv a.tm b.tv b.tm, ul, uh, sl, sh, wl, wh, vl, vh⟩ : Bd) := good_by (Tn.sub_ok _ _ _ _) hk u1.1 u2.2 s1.1 s2.2 w5.1 w5.2 v5.1 v5.2
  have csy := fun w => k_sync (⟨Tn.Tn.subV a.tv a.tm b.tv b.tm, Tn.Tn.subU a.tv a.tm b.tv b.tm, ul, uh, sl, sh, wl, wh, vl, vh⟩ : Bd) w hg
  generalize hrs : syncM (⟨Tn.Tn.subV a.tv a.tm b.tv b.tm, Tn.Tn.subU a.tv a.tm b.tv b.tm, ul, uh, sl, sh, wl, wh, vl, vh⟩ : Bd) = RS at csy
  refine deed_of hg hk (fun _ pa pb => .inl ?_) (fun w => ?_)
  · show Tn.Tn.subU a.tv a.tm b.tv b.tm = 0#64
    rw [show a.tm = 0#64 by rw [pa]; rfl, show b.tm = 0#64 by rw [pb]; rfl]
    unfold Tn.Tn.subU
    ext i hi
    simp
  rw [hrs]
  go_enter Tryz.func122, Tryz.ntmps122
  go_upto_region 1 with fail
  have HA : AtA (((w.alloc (.cells (bv a) 30)).alloc (.cells (bv b) 30)).alloc (.cells (bv zeroM) 30)) w.heap.size (bv a) 30 := ((AtA.newb _ rfl _ _).alloc _).alloc _
  have HB : AtA (((w.alloc (.cells (bv a) 30)).alloc (.cells (bv b) 30)).alloc (.cells (bv zeroM) 30)) (w.heap.size + 1) (bv b) 30 := (AtA.newb _ (by simp) _ _).alloc _
  have HR : AtA (((w.alloc (.cells (bv a) 30)).alloc (.cells (bv b) 30)).alloc (.cells (bv zeroM) 30)) (w.heap.size + 1 + 1) (bv zeroM) 30 := AtA.newb _ (by simp) _ _
  have HF : Gr w (((w.alloc (.cells (bv a) 30)).alloc (.cells (bv b) 30)).alloc (.cells (bv zeroM) 30)) := Gr.alloc (Gr.alloc (Gr.alloc (Gr.refl w) _ _) _ _) _ _
  have nAR : w.heap.size ≠ w.heap.size + 1 + 1 := by omega
  have nBR : w.heap.size + 1 ≠ w.heap.size + 1 + 1 := by omega
  have hPR : w.heap.size ≤ w.heap.size + 1 + 1 := by omega
  revert HA HB HR HF nAR nBR hPR
  rw [bv_zero]
  generalize (((w.alloc (.cells (bv a) 30)).alloc (.cells (bv b) 30)).alloc (.cells _ 30)) = W0
  generalize w.heap.size + 1 + 1 = PR
  generalize w.heap.size + 1 = PB
  generalize hw0 : w.heap.size = PA
  intro HA HB HR HF nAR nBR hPR
  rw [← hw0] at hPR
  rw [← bv_zero] at HR
  refine wp_region_qln (C := Gr W0) 29 (by kernel_rfl) (by kernel_rfl) (by kernel_rfl) (by kernel_rfl) (by kernel_rfl) (Gr.drew (Gr.refl _)) ?_
  refine q_do (by rfl) ?_
  refine q_fa0 rfl rfl ?_
  refine q_do (by rfl) ?_
  refine q_pT rfl rfl (fun w h => (HA).gr h) rfl rfl ?_
  refine q_do (by rfl) ?_
  refine q_fa0 rfl rfl ?_
  simp only [Act.put, List.setIfInBounds_toArray, List.set_cons_zero, List.set_cons_succ]
  refine q_do (by rfl) ?_
  refine q_pT rfl rfl (fun w h => (HB).gr h) rfl rfl ?_
  refine q_do (by rfl) ?_
  refine q_call2 rfl rfl rfl (fun w => by go_simp) (grc (fun w => Go.Proofs.YtekenpgagfmgkaaGreat.cv (Tn.sub_any a.tv a.tm b.tv b.tm w)) (rfl)) ?_
  refine q_do (by rfl) ?_
  refine q_fa1 rfl rfl ?_
  simp only [Act.put, List.setIfInBounds_toArray, List.set_cons_zero, List.set_cons_succ]
  refine q_do (by rfl) ?_
  refine q_pU rfl rfl (fun w h => (HA).gr h) rfl rfl ?_
  refine q_do (by rfl) ?_
  refine q_fa1 rfl rfl ?_
  refine q_do (by rfl) ?_
  refine q_pU rfl rfl (fun w h => (HB).gr h) rfl rfl ?_
  simp only [Act.put, List.setIfInBounds_toArray, List.set_cons_zero, List.set_cons_succ]
  refine q_do (by rfl) ?_
  refine q_call2 rfl rfl rfl (fun w => by go_simp) (grc (cu) (rfl)) ?_
  refine q_do (by rfl) ?_
  refine q_fa2 rfl rfl ?_
  refine q_do (by rfl) ?_
  refine q_pS rfl rfl (fun w h => (HA).gr h) rfl rfl ?_
  simp only [Act.put, List.setIfInBounds_toArray, List.set_cons_zero, List.set_cons_succ]
  refine q_do (by rfl) ?_
  refine q_fa2 rfl rfl ?_
  refine q_do (by rfl) ?_
  refine q_pS rfl rfl (fun w h => (HB).gr h) rfl rfl ?_
  refine q_do (by rfl) ?_
  refine q_call2 rfl rfl rfl (fun w => by go_simp) (grc (cs) (rfl)) ?_
  simp only [Act.put, List.setIfInBounds_toArray, List.set_cons_zero, List.set_cons_succ]
  refine q_do (by rfl) ?_
  refine q_fa3 rfl rfl ?_
  refine q_do (by rfl) ?_
  refine q_pU rfl rfl (fun w h => (HA).gr h) rfl rfl ?_
  refine q_do (by rfl) ?_
  refine q_fa3 rfl rfl ?_
  simp only [Act.put, List.setIfInBounds_toArray, List.set_cons_zero, List.set_cons_succ]
  refine q_do (by rfl) ?_
  refine q_pU rfl rfl (fun w h => (HB).gr h) rfl rfl ?_
  refine q_do (by rfl) ?_
  refine q_call2 rfl rfl rfl (fun w => by go_simp) (grc (cw) (rfl)) ?_
  refine q_do (by rfl) ?_
  refine q_call1 rfl rfl (fun w => by go_simp) (grc (ch) (rfl)) ?_
  simp only [Act.put, List.setIfInBounds_toArray, List.set_cons_zero, List.set_cons_succ]
  refine q_do (by rfl) ?_
  refine q_fa4 rfl rfl ?_
  refine q_do (by rfl) ?_
  refine q_pS rfl rfl (fun w h => (HA).gr h) rfl rfl ?_
  refine q_do (by rfl) ?_
  refine q_fa4 rfl rfl ?_
  simp only [Act.put, List.setIfInBounds_toArray, List.set_cons_zero, List.set_cons_succ]
  refine q_do (by rfl) ?_
  refine q_pS rfl rfl (fun w h => (HB).gr h) rfl rfl ?_
  refine q_do (by rfl) ?_
  refine q_call2 rfl rfl rfl (fun w => by go_simp) (grc (cv) (rfl)) ?_
  refine q_do (by rfl) ?_
  refine q_call1 rfl rfl (fun w => by go_simp) (grc (ci) (rfl)) ?_
  simp only [Act.put, List.setIfInBounds_toArray, List.set_cons_zero, List.set_cons_succ]
  refine q_do (by rfl) ?_
  refine q_buildB rfl rfl rfl rfl rfl rfl ?_
  refine q_do (by rfl) ?_
  refine q_call1 rfl rfl (fun w => by go_simp) (grc (csy) (rfl)) ?_
  simp only [Act.put, List.setIfInBounds_toArray, List.set_cons_zero, List.set_cons_succ]
  intro wq1 hq1
  have hPA_1 := (HA).gr hq1
  have hPB_1 := (HB).gr hq1
  have hPR_1 := (HR).gr hq1
  have hF_1 := (HF).trans hq1
  refine seq_do ?_
  refine wp_storeB rfl rfl rfl (hPR_1) ?_
  intro ws2 hs2 gx2
  have hPA_2 := (hPA_1).grx gx2 nAR
  have hPB_2 := (hPB_1).grx gx2 nBR
  have hF_2 := gx2.gr _ (hF_1) hPR
  simp only [Act.put, List.setIfInBounds_toArray, List.set_cons_zero, List.set_cons_succ]
  refine seq_end ?_
  obtain ⟨r0, r1, r2, r3, r4, r5, r6, r7, r8, r9⟩ := cells_bv (hs2)
  go_wp2
  refine bodyPost_ret (by simp [results, Tryz.results122, go_sem, r0, r1, r2, r3, r4, r5, r6, r7, r8, r9]; try rfl) rfl ?_
  exact ⟨rfl, hF_2⟩
end Go.Proofs.YtekenpgagfmgkaaGreat
end
section
namespace Go.Proofs.YtekenpgagfmgkaaGreat
open Go.ChangeShapes Go.WideShapes Go.ChangeAt Go.RowKit
open Tn (iv)
set_option linter.unusedVariables false
set_option linter.unusedSimpArgs false
set_option maxRecDepth 20000

theorem six_eq {b : Bd} {y : BitVec 64} (kb : Has b y) (hq : (iv (b.tm &&& (1#64 <<< 6 - 1#64)) == 0) = true) : y &&& (1#64 <<< 6 - 1#64) = b.tv &&& (1#64 <<< 6 - 1#64) := by
  have h0 : b.tm &&& (1#64 <<< 6 - 1#64) = 0#64 := by
    rw [beq_iff_eq] at hq
    apply BitVec.eq_of_toNat_eq
    unfold Tn.iv at hq
    have : (0#64).toNat = 0 := rfl
    omega
  rw [← kb.t]
  ext i hi
  have := congrArg (fun z => z.getLsbD i) h0
  simp only [BitVec.getLsbD_and, BitVec.getLsbD_zero] at this
  simp only [BitVec.getElem_and, BitVec.getElem_not]
  rw [← BitVec.getLsbD_eq_getElem hi, ← BitVec.getLsbD_eq_getElem hi, ← BitVec.getLsbD_eq_getElem hi]
  cases h1 : y.getLsbD i <;> cases h2 : b.tm.getLsbD i <;> cases h3 : ((1#64 <<< 6 - 1#64)).getLsbD i <;> simp_all
theorem six_le (v : BitVec 64) : (v &&& (1#64 <<< 6 - 1#64)).toNat ≤ 63 := by
  have : ((1#64 <<< 6 - 1#64)) = 63#64 := by decide
  rw [this, BitVec.toNat_and]
  have h : (63#64).toNat = 63 := rfl
  rw [h]
  exact Nat.and_le_right
theorem six_const {b : Bd} {y : BitVec 64} (h : b = constM y) : (iv (b.tm &&& (1#64 <<< 6 - 1#64)) == 0) = true := by
  rw [h]
  show (iv (0#64 &&& (1#64 <<< 6 - 1#64)) == 0) = true
  rw [and_z]
  rfl
/-- What a shift makes: as Deed, but of b its lowest six bits alone must be known. -/
def DeedS (f : FuncId) (a b : Bd) (x z : BitVec 64) : Prop :=
  ∃ c : Bd, Good c ∧ Has c z ∧ (a = constM x → (iv (b.tm &&& (1#64 <<< 6 - 1#64)) == 0) = true → c = constM z) ∧ ∀ w, Calls Tryz.prog f #[.agg (bv a), .agg (bv b)] w fun e w' => e = .returned (.agg (bv c)) ∧ Gr w w'
theorem deeds_of {f : FuncId} {a b r : Bd} {x z : BitVec 64} (g : Good r) (k : Has r z) (hp : a = constM x → (iv (b.tm &&& (1#64 <<< 6 - 1#64)) == 0) = true → Pin r) (hc : ∀ w, Calls Tryz.prog f #[.agg (bv a), .agg (bv b)] w fun e w' => e = .returned (.agg (bv (syncM r))) ∧ Gr w w') : DeedS f a b x z := by
  have h := sync_keep g k
  exact ⟨syncM r, h.2.2, h.1, fun ea eb => sync_pin g k (hp ea eb), hc⟩
theorem DeedS.deed {f : FuncId} {a b : Bd} {x y z : BitVec 64} (h : DeedS f a b x z) : Deed f a b x y z True := by
  obtain ⟨c, h1, h2, h3, h4⟩ := h
  exact ⟨c, h1, h2, fun _ ea eb => h3 ea (six_const eb), h4⟩
theorem shl_iv (x : BitVec 64) {n : Nat} (h : n ≤ 63) : IntKind.u64.wrap (iv x * 2 ^ min n 64) = iv (x <<< n) := by
  rw [wr64, Nat.min_eq_left (by omega)]
  unfold Tn.iv
  rw [BitVec.toNat_shiftLeft, Nat.shiftLeft_eq, Int.natCast_emod, Int.natCast_mul, Int.natCast_pow]
  rfl
theorem shr_iv (x : BitVec 64) {n : Nat} (h : n ≤ 63) : iv x / 2 ^ min n 64 = iv (x >>> n) := by
  rw [Nat.min_eq_left (by omega)]
  unfold Tn.iv
  rw [BitVec.toNat_ushiftRight, Nat.shiftRight_eq_div_pow, Int.natCast_ediv, Int.natCast_pow]
  rfl
theorem shr_le (x : BitVec 64) (n : Nat) : iv (x >>> n) ≤ iv x := by
  unfold Tn.iv
  rw [BitVec.toNat_ushiftRight, Nat.shiftRight_eq_div_pow]
  have := Nat.div_le_self x.toNat (2 ^ n)
  omega
theorem w64_toInt (x : BitVec 64) : wrap64 (iv x) = x.toInt := by
  unfold wrap64 Tn.iv
  rw [BitVec.toInt_eq_toNat_cond]
  have := x.isLt
  split <;> omega
theorem sar_iv (x : BitVec 64) {n : Nat} (h : n ≤ 63) : wrap64 (iv x) / 2 ^ min n 63 = wrap64 (iv (x.sshiftRight n)) := by
  rw [Nat.min_eq_left h, w64_toInt, w64_toInt, BitVec.toInt_sshiftRight, Int.shiftRight_eq_div_pow]
  rfl
theorem iv_ne {y : BitVec 64} (h : y ≠ 0#64) : iv y ≠ 0 := by
  intro h0
  apply h
  apply BitVec.eq_of_toNat_eq
  unfold Tn.iv at h0
  have : (0#64).toNat = 0 := rfl
  omega
theorem iv_div (x y : BitVec 64) : iv (if y = 0#64 then 0#64 else x / y) = if iv y = 0 then 0 else iv x / iv y := by
  by_cases h : y = 0#64
  · subst h
    rfl
  · rw [if_neg h, if_neg (iv_ne h)]
    unfold Tn.iv
    rw [BitVec.toNat_udiv, Int.natCast_ediv]
theorem iv_mod (x y : BitVec 64) : iv (if y = 0#64 then x else x % y) = if iv y = 0 then iv x else iv x % iv y := by
  by_cases h : y = 0#64
  · subst h
    rfl
  · rw [if_neg h, if_neg (iv_ne h)]
    unfold Tn.iv
    rw [BitVec.toNat_umod, Int.natCast_emod]
theorem e_mod {al ah bl bh x y : Int} (i0 : InU al) (i1 : InU ah) (i2 : InU bl) (i3 : InU bh) (n1 : al ≤ x) (n2 : x ≤ ah) (n3 : bl ≤ y) (n4 : y ≤ bh) (v : Int) (hv : v = if y = 0 then x else x % y) : ∃ l h : Int, InU l ∧ InU h ∧ l ≤ v ∧ v ≤ h ∧ ∀ w, Calls Tryz.prog 128 #[.agg #[.int .u64 al, .int .u64 ah], .agg #[.int .u64 bl, .int .u64 bh]] w fun e w' => e = .returned (.agg #[.int .u64 l, .int .u64 h]) ∧ Gr w w' := by
  have k := mod_in i0 i1 i2 i3 n1 n2 n3 n4 v hv
  rw [Bool.and_eq_true, decide_eq_true_eq, decide_eq_true_eq] at k
  refine ⟨_, _, ?_, ?_, k.1, k.2, fun w => mod_any al ah bl bh i0 i1 i2 i3 w⟩
  · exact inU_eN inU1 (inU_eN inU0 inU0)
  · clear k hv
    unfold InU eN at *
    repeat' split
    all_goals first | omega | (simp only [decide_eq_true_eq, Bool.or_eq_true, Bool.and_eq_true] at *; omega)
set_option maxHeartbeats 4000000 in
theorem k_six (b : Bd) (q : Bool) (hq : (iv (b.tm &&& (1#64 <<< 6 - 1#64)) == 0) = q) (w : World) : Calls Tryz.prog 195 #[.agg (bv b)] w fun e w' => e = .returned (.tuple #[.int .u64 (iv (b.tv &&& (1#64 <<< 6 - 1#64))), .bool q]) ∧ Gr w w' := by
  go_enter Tryz.func195, Tryz.ntmps195
  go_upto_region 1 with fail
  have HB : AtA (w.alloc (.cells (bv b) 30)) w.heap.size (bv b) 30 := AtA.newb _ rfl _ _
  have HF : Gr w (w.alloc (.cells (bv b) 30)) := Gr.alloc (Gr.refl w) _ _
  revert HB HF
  generalize (w.alloc (.cells (bv b) 30)) = W0
  generalize w.heap.size = PB
  intro HB HF
  refine wp_region_seqW (by kernel_rfl) ?_
  refine seq_do ?_
  refine wp_fa0 rfl rfl ?_
  refine seq_do ?_
  refine wp_pT rfl rfl (HB) rfl rfl ?_
  refine seq_do ?_
  refine wp_call2 rfl rfl rfl (by go_simp) ?_
  refine ((fun w => cv (Tn.low_any b.tv b.tm 6 w)) _).mono ?_
  rintro e wk1 ⟨rfl, hk1⟩
  refine ⟨_, rfl, ?_⟩
  have hPB_1 := (HB).gr hk1
  have hF_1 := (HF).trans hk1
  simp only [Act.put, List.setIfInBounds_toArray, List.set_cons_zero, List.set_cons_succ]
  refine seq_do ?_
  refine wp_allocT rfl ?_
  intro ws2 hn2 hg2
  have hge2 := (hF_1).below.size
  have hnePB_PN2 : PB ≠ wk1.heap.size := Nat.ne_of_lt (hPB_1).lt
  have hPB_2 := (hPB_1).gr hg2
  have hF_2 := (hF_1).trans hg2
  revert hn2 hge2 hnePB_PN2
  generalize wk1.heap.size = PN2
  intro hn2 hge2 hnePB_PN2
  refine seq_do ?_
  refine wp_storeT rfl rfl rfl (hn2) ?_
  intro ws3 hs3 gx3
  have hPB_3 := (hPB_2).grx gx3 hnePB_PN2
  have hF_3 := gx3.gr _ (hF_2) hge2
  simp only [Act.put, List.setIfInBounds_toArray, List.set_cons_zero, List.set_cons_succ]
  refine seq_end ?_
  go_upto_region 2 with fail
  refine wp_region_q (C := Gr ws3) (by kernel_rfl) (by kernel_rfl) (Gr.drew (Gr.refl _)) ?_
  refine q_do (by rfl) ?_
  refine q_fT0 rfl rfl ?_
  refine q_do (by rfl) ?_
  refine q_p64 rfl rfl (fun w h => (hs3).gr h) rfl ?_
  refine q_do (by rfl) ?_
  refine q_fT1 rfl rfl ?_
  simp only [Act.put, List.setIfInBounds_toArray, List.set_cons_zero, List.set_cons_succ]
  refine q_do (by rfl) ?_
  refine q_p64 rfl rfl (fun w h => (hs3).gr h) rfl ?_
  refine q_do (by rfl) ?_
  refine q_eq64 (r := q) rfl rfl rfl (hq) ?_
  refine q_do (by rfl) ?_
  refine q_assign (v := .int .u64 (iv (b.tv &&& (1#64 <<< 6 - 1#64)))) rfl rfl ?_
  simp only [Act.put, List.setIfInBounds_toArray, List.set_cons_zero, List.set_cons_succ]
  refine q_do (by rfl) ?_
  refine q_assign (v := .bool q) rfl rfl ?_
  simp only [Act.put, List.setIfInBounds_toArray, List.set_cons_zero, List.set_cons_succ]
  intro wq4 hq4
  have hPB_4 := (hPB_3).gr hq4
  have hPN2_4 := (hs3).gr hq4
  have hF_4 := (hF_3).trans hq4
  go_wp2
  refine bodyPost_ret (by simp [results, Tryz.results195, go_sem]; try rfl) rfl ?_
  exact ⟨rfl, hF_4⟩
set_option maxHeartbeats 4000000 in
theorem k_inSpan (l h : Int) (hg : Good ({ anyM with ul := l, uh := h } : Bd)) (w : World) : Calls Tryz.prog 125 #[.agg #[.int .u64 l, .int .u64 h]] w fun e w' => e = .returned (.agg (bv (syncM ({ anyM with ul := l, uh := h } : Bd)))) ∧ Gr w w' := by
  have csy := fun w => k_sync ({ anyM with ul := l, uh := h } : Bd) w hg
  generalize hrs : syncM ({ anyM with ul := l, uh := h } : Bd) = RS at csy
  go_enter Tryz.func125, Tryz.ntmps125
  go_upto_region 1 with fail
  have HU : AtA ((w.alloc (.cells #[.int .u64 l, .int .u64 h] 26)).alloc (.cells (bv zeroM) 30)) w.heap.size #[.int .u64 l, .int .u64 h] 26 := (AtA.newb _ rfl _ _).alloc _
  have HR : AtA ((w.alloc (.cells #[.int .u64 l, .int .u64 h] 26)).alloc (.cells (bv zeroM) 30)) (w.heap.size + 1) (bv zeroM) 30 := AtA.newb _ (by simp) _ _
  have HF : Gr w ((w.alloc (.cells #[.int .u64 l, .int .u64 h] 26)).alloc (.cells (bv zeroM) 30)) := Gr.alloc (Gr.alloc (Gr.refl w) _ _) _ _
  have nUR : w.heap.size ≠ w.heap.size + 1 := by omega
  have hPR : w.heap.size ≤ w.heap.size + 1 := by omega
  revert HU HR HF nUR hPR
  rw [bv_zero]
  generalize ((w.alloc (.cells #[.int .u64 l, .int .u64 h] 26)).alloc (.cells _ 30)) = W0
  generalize w.heap.size + 1 = PR
  generalize hw0 : w.heap.size = PU
  intro HU HR HF nUR hPR
  rw [← hw0] at hPR
  rw [← bv_zero] at HR
  refine wp_region_seqW (by kernel_rfl) ?_
  refine seq_do ?_
  refine wp_call0 rfl (by go_simp) ?_
  refine ((k_any) _).mono ?_
  rintro e wk1 ⟨rfl, hk1⟩
  refine ⟨_, rfl, ?_⟩
  have hPU_1 := (HU).gr hk1
  have hPR_1 := (HR).gr hk1
  have hF_1 := (HF).trans hk1
  refine seq_do ?_
  refine wp_allocB rfl ?_
  intro ws2 hn2 hg2
  have hge2 := (hF_1).below.size
  have hnePU_PN2 : PU ≠ wk1.heap.size := Nat.ne_of_lt (hPU_1).lt
  have hnePR_PN2 : PR ≠ wk1.heap.size := Nat.ne_of_lt (hPR_1).lt
  have hPU_2 := (hPU_1).gr hg2
  have hPR_2 := (hPR_1).gr hg2
  have hF_2 := (hF_1).trans hg2
  revert hn2 hge2 hnePU_PN2 hnePR_PN2
  generalize wk1.heap.size = PN2
  intro hn2 hge2 hnePU_PN2 hnePR_PN2
  refine seq_do ?_
  refine wp_storeB rfl rfl rfl (hn2) ?_
  intro ws3 hs3 gx3
  have hPU_3 := (hPU_2).grx gx3 hnePU_PN2
  have hPR_3 := (hPR_2).grx gx3 hnePR_PN2
  have hF_3 := gx3.gr _ (hF_2) hge2
  simp only [Act.put, List.setIfInBounds_toArray, List.set_cons_zero, List.set_cons_succ]
  refine seq_end ?_
  go_upto_region 2 with fail
  refine wp_region_seqW (by kernel_rfl) ?_
  refine seq_do ?_
  refine wp_pU rfl rfl (hPU_3) rfl rfl ?_
  refine seq_do ?_
  refine wp_fa1 rfl rfl ?_
  refine seq_do ?_
  refine wp_stU rfl rfl rfl (hs3) ?_
  intro ws4 hs4 gx4
  have hPU_4 := (hPU_3).grx gx4 hnePU_PN2
  have hPR_4 := (hPR_3).grx gx4 hnePR_PN2
  have hF_4 := gx4.gr _ (hF_3) hge2
  simp only [Act.put, List.setIfInBounds_toArray, List.set_cons_zero, List.set_cons_succ]
  refine seq_end ?_
  go_upto_region 3 with fail
  refine wp_region_seqW (by kernel_rfl) ?_
  refine seq_do ?_
  refine wp_loadB rfl rfl (hs4) ?_
  refine seq_do ?_
  refine wp_call1 rfl rfl (by go_simp) ?_
  refine ((csy) _).mono ?_
  rintro e wk5 ⟨rfl, hk5⟩
  refine ⟨_, rfl, ?_⟩
  have hPU_5 := (hPU_4).gr hk5
  have hPR_5 := (hPR_4).gr hk5
  have hPN2_5 := (hs4).gr hk5
  have hF_5 := (hF_4).trans hk5
  refine seq_do ?_
  refine wp_storeB rfl rfl rfl (hPR_5) ?_
  intro ws6 hs6 gx6
  have hPU_6 := (hPU_5).grx gx6 nUR
  have hPN2_6 := (hPN2_5).grx gx6 (Ne.symm hnePR_PN2)
  have hF_6 := gx6.gr _ (hF_5) hPR
  simp only [Act.put, List.setIfInBounds_toArray, List.set_cons_zero, List.set_cons_succ]
  refine seq_end ?_
  obtain ⟨r0, r1, r2, r3, r4, r5, r6, r7, r8, r9⟩ := cells_bv (hs6)
  go_wp2
  refine bodyPost_ret (by simp [results, Tryz.results125, go_sem, r0, r1, r2, r3, r4, r5, r6, r7, r8, r9]; try rfl) rfl ?_
  exact ⟨rfl, hF_6⟩
theorem inspan_of {l h : Int} {z : BitVec 64} (h0 : InU l) (h1 : InU h) (h2 : l ≤ iv z) (h3 : iv z ≤ h) : Has ({ anyM with ul := l, uh := h } : Bd) z ∧ Good ({ anyM with ul := l, uh := h } : Bd) := by
  have hz := has_any z
  have hk : Has ({ anyM with ul := l, uh := h } : Bd) z := ⟨hz.t, h2, h3, hz.s0, hz.s1, hz.w0, hz.w1, hz.v0, hz.v1⟩
  exact ⟨hk, good_by good_any.ok hk h0.1 h1.2 good_any.s0 good_any.s2 good_any.w0 good_any.w2 good_any.v0 good_any.v2⟩
set_option maxHeartbeats 4000000 in
theorem d_div {a b : Bd} {x y : BitVec 64} (ga : Good a) (gb : Good b) (ka : Has a x) (kb : Has b y) : Deed 124 a b x y (if y = 0#64 then 0#64 else x / y) (y ≠ 0#64) := by
  have hv : iv (if y = 0#64 then 0#64 else x / y) = if iv y = 0 then 0 else iv x / iv y := iv_div x y
  obtain ⟨l, h, u1, u2, u3, u4, up, cu⟩ := e_div ga.iu0 ga.iu1 gb.iu0 gb.iu1 ka.u0 ka.u1 kb.u0 kb.u1 _ hv
  obtain ⟨hk, hg⟩ := inspan_of u1 u2 u3 u4
  have csy := fun w => k_inSpan l h hg w
  generalize hrs : syncM ({ anyM with ul := l, uh := h } : Bd) = RS at csy
  refine deed_of hg hk (fun hy pa pb => .inr (up (by rw [pa]; rfl) (by rw [pb]; rfl) (iv_ne hy))) (fun w => ?_)
  rw [hrs]
  go_enter Tryz.func124, Tryz.ntmps124
  go_upto_region 1 with fail
  have HA : AtA (((w.alloc (.cells (bv a) 30)).alloc (.cells (bv b) 30)).alloc (.cells (bv zeroM) 30)) w.heap.size (bv a) 30 := ((AtA.newb _ rfl _ _).alloc _).alloc _
  have HB : AtA (((w.alloc (.cells (bv a) 30)).alloc (.cells (bv b) 30)).alloc (.cells (bv zeroM) 30)) (w.heap.size + 1) (bv b) 30 := (AtA.newb _ (by simp) _ _).alloc _
  have HR : AtA (((w.alloc (.cells (bv a) 30)).alloc (.cells (bv b) 30)).alloc (.cells (bv zeroM) 30)) (w.heap.size + 1 + 1) (bv zeroM) 30 := AtA.newb _ (by simp) _ _
  have HF : Gr w (((w.alloc (.cells (bv a) 30)).alloc (.cells (bv b) 30)).alloc (.cells (bv zeroM) 30)) := Gr.alloc (Gr.alloc (Gr.alloc (Gr.refl w) _ _) _ _) _ _
  have nAR : w.heap.size ≠ w.heap.size + 1 + 1 := by omega
  have nBR : w.heap.size + 1 ≠ w.heap.size + 1 + 1 := by omega
  have hPR : w.heap.size ≤ w.heap.size + 1 + 1 := by omega
  revert HA HB HR HF nAR nBR hPR
  rw [bv_zero]
  generalize (((w.alloc (.cells (bv a) 30)).alloc (.cells (bv b) 30)).alloc (.cells _ 30)) = W0
  generalize w.heap.size + 1 + 1 = PR
  generalize w.heap.size + 1 = PB
  generalize hw0 : w.heap.size = PA
  intro HA HB HR HF nAR nBR hPR
  rw [← hw0] at hPR
  rw [← bv_zero] at HR
  refine wp_region_seqW (by kernel_rfl) ?_
  refine seq_do ?_
  refine wp_fa1 rfl rfl ?_
  refine seq_do ?_
  refine wp_pU rfl rfl (HA) rfl rfl ?_
  refine seq_do ?_
  refine wp_fa1 rfl rfl ?_
  simp only [Act.put, List.setIfInBounds_toArray, List.set_cons_zero, List.set_cons_succ]
  refine seq_do ?_
  refine wp_pU rfl rfl (HB) rfl rfl ?_
  refine seq_do ?_
  refine wp_call2 rfl rfl rfl (by go_simp) ?_
  refine ((cu) _).mono ?_
  rintro e wk1 ⟨rfl, hk1⟩
  refine ⟨_, rfl, ?_⟩
  have hPA_1 := (HA).gr hk1
  have hPB_1 := (HB).gr hk1
  have hPR_1 := (HR).gr hk1
  have hF_1 := (HF).trans hk1
  refine seq_do ?_
  refine wp_call1 rfl rfl (by go_simp) ?_
  refine ((csy) _).mono ?_
  rintro e wk2 ⟨rfl, hk2⟩
  refine ⟨_, rfl, ?_⟩
  have hPA_2 := (hPA_1).gr hk2
  have hPB_2 := (hPB_1).gr hk2
  have hPR_2 := (hPR_1).gr hk2
  have hF_2 := (hF_1).trans hk2
  simp only [Act.put, List.setIfInBounds_toArray, List.set_cons_zero, List.set_cons_succ]
  refine seq_do ?_
  refine wp_storeB rfl rfl rfl (hPR_2) ?_
  intro ws3 hs3 gx3
  have hPA_3 := (hPA_2).grx gx3 nAR
  have hPB_3 := (hPB_2).grx gx3 nBR
  have hF_3 := gx3.gr _ (hF_2) hPR
  simp only [Act.put, List.setIfInBounds_toArray, List.set_cons_zero, List.set_cons_succ]
  refine seq_end ?_
  obtain ⟨r0, r1, r2, r3, r4, r5, r6, r7, r8, r9⟩ := cells_bv (hs3)
  go_wp2
  refine bodyPost_ret (by simp [results, Tryz.results124, go_sem, r0, r1, r2, r3, r4, r5, r6, r7, r8, r9]; try rfl) rfl ?_
  exact ⟨rfl, hF_3⟩
set_option maxHeartbeats 4000000 in
theorem d_mod {a b : Bd} {x y : BitVec 64} (ga : Good a) (gb : Good b) (ka : Has a x) (kb : Has b y) : Deed 127 a b x y (if y = 0#64 then x else x % y) (False) := by
  have hv : iv (if y = 0#64 then x else x % y) = if iv y = 0 then iv x else iv x % iv y := iv_mod x y
  obtain ⟨l, h, u1, u2, u3, u4, cu⟩ := e_mod ga.iu0 ga.iu1 gb.iu0 gb.iu1 ka.u0 ka.u1 kb.u0 kb.u1 _ hv
  obtain ⟨hk, hg⟩ := inspan_of u1 u2 u3 u4
  have csy := fun w => k_inSpan l h hg w
  generalize hrs : syncM ({ anyM with ul := l, uh := h } : Bd) = RS at csy
  refine deed_of hg hk (fun hf => hf.elim) (fun w => ?_)
  rw [hrs]
  go_enter Tryz.func127, Tryz.ntmps127
  go_upto_region 1 with fail
  have HA : AtA (((w.alloc (.cells (bv a) 30)).alloc (.cells (bv b) 30)).alloc (.cells (bv zeroM) 30)) w.heap.size (bv a) 30 := ((AtA.newb _ rfl _ _).alloc _).alloc _
  have HB : AtA (((w.alloc (.cells (bv a) 30)).alloc (.cells (bv b) 30)).alloc (.cells (bv zeroM) 30)) (w.heap.size + 1) (bv b) 30 := (AtA.newb _ (by simp) _ _).alloc _
  have HR : AtA (((w.alloc (.cells (bv a) 30)).alloc (.cells (bv b) 30)).alloc (.cells (bv zeroM) 30)) (w.heap.size + 1 + 1) (bv zeroM) 30 := AtA.newb _ (by simp) _ _
  have HF : Gr w (((w.alloc (.cells (bv a) 30)).alloc (.cells (bv b) 30)).alloc (.cells (bv zeroM) 30)) := Gr.alloc (Gr.alloc (Gr.alloc (Gr.refl w) _ _) _ _) _ _
  have nAR : w.heap.size ≠ w.heap.size + 1 + 1 := by omega
  have nBR : w.heap.size + 1 ≠ w.heap.size + 1 + 1 := by omega
  have hPR : w.heap.size ≤ w.heap.size + 1 + 1 := by omega
  revert HA HB HR HF nAR nBR hPR
  rw [bv_zero]
  generalize (((w.alloc (.cells (bv a) 30)).alloc (.cells (bv b) 30)).alloc (.cells _ 30)) = W0
  generalize w.heap.size + 1 + 1 = PR
  generalize w.heap.size + 1 = PB
  generalize hw0 : w.heap.size = PA
  intro HA HB HR HF nAR nBR hPR
  rw [← hw0] at hPR
  rw [← bv_zero] at HR
  refine wp_region_seqW (by kernel_rfl) ?_
  refine seq_do ?_
  refine wp_fa1 rfl rfl ?_
  refine seq_do ?_
  refine wp_pU rfl rfl (HA) rfl rfl ?_
  refine seq_do ?_
  refine wp_fa1 rfl rfl ?_
  simp only [Act.put, List.setIfInBounds_toArray, List.set_cons_zero, List.set_cons_succ]
  refine seq_do ?_
  refine wp_pU rfl rfl (HB) rfl rfl ?_
  refine seq_do ?_
  refine wp_call2 rfl rfl rfl (by go_simp) ?_
  refine ((cu) _).mono ?_
  rintro e wk1 ⟨rfl, hk1⟩
  refine ⟨_, rfl, ?_⟩
  have hPA_1 := (HA).gr hk1
  have hPB_1 := (HB).gr hk1
  have hPR_1 := (HR).gr hk1
  have hF_1 := (HF).trans hk1
  refine seq_do ?_
  refine wp_call1 rfl rfl (by go_simp) ?_
  refine ((csy) _).mono ?_
  rintro e wk2 ⟨rfl, hk2⟩
  refine ⟨_, rfl, ?_⟩
  have hPA_2 := (hPA_1).gr hk2
  have hPB_2 := (hPB_1).gr hk2
  have hPR_2 := (hPR_1).gr hk2
  have hF_2 := (hF_1).trans hk2
  simp only [Act.put, List.setIfInBounds_toArray, List.set_cons_zero, List.set_cons_succ]
  refine seq_do ?_
  refine wp_storeB rfl rfl rfl (hPR_2) ?_
  intro ws3 hs3 gx3
  have hPA_3 := (hPA_2).grx gx3 nAR
  have hPB_3 := (hPB_2).grx gx3 nBR
  have hF_3 := gx3.gr _ (hF_2) hPR
  simp only [Act.put, List.setIfInBounds_toArray, List.set_cons_zero, List.set_cons_succ]
  refine seq_end ?_
  obtain ⟨r0, r1, r2, r3, r4, r5, r6, r7, r8, r9⟩ := cells_bv (hs3)
  go_wp2
  refine bodyPost_ret (by simp [results, Tryz.results127, go_sem, r0, r1, r2, r3, r4, r5, r6, r7, r8, r9]; try rfl) rfl ?_
  exact ⟨rfl, hF_3⟩
set_option maxHeartbeats 4000000 in
theorem d_shl {a b : Bd} {x y : BitVec 64} (ga : Good a) (gb : Good b) (ka : Has a x) (kb : Has b y) : DeedS 132 a b x (x <<< (y &&& (1#64 <<< 6 - 1#64)).toNat) := by
  cases hq : (iv (b.tm &&& (1#64 <<< 6 - 1#64)) == 0) with
  | true =>
    have hn := six_eq kb hq
    obtain ⟨n, hnn⟩ : ∃ n : Nat, n = (b.tv &&& (1#64 <<< 6 - 1#64)).toNat := ⟨_, rfl⟩
    rw [hn, ← hnn]
    have hn6 : n ≤ 63 := by rw [hnn]; exact six_le b.tv
    obtain ⟨l, h, u1, u2, u3, u4, cu⟩ := e_shl ga.iu0 ga.iu1 (iv_range x) n ka.u0 ka.u1
    rw [shl_iv x hn6] at u3 u4
    have hz := has_any (x <<< n)
    have hk : Has ({ { anyM with tv := (a.tv <<< n), tm := (a.tm <<< n) } with ul := l, uh := h } : Bd) (x <<< n) := ⟨t_of (Tn.shl_ok ga.ok n) (Tn.shl_has ka.th n), u3, u4, hz.s0, hz.s1, hz.w0, hz.w1, hz.v0, hz.v1⟩
    have hg : Good ({ { anyM with tv := (a.tv <<< n), tm := (a.tm <<< n) } with ul := l, uh := h } : Bd) := good_by (Tn.shl_ok ga.ok n) hk u1.1 u2.2 good_any.s0 good_any.s2 good_any.w0 good_any.w2 good_any.v0 good_any.v2
    have csy := fun w => k_sync ({ { anyM with tv := (a.tv <<< n), tm := (a.tm <<< n) } with ul := l, uh := h } : Bd) w hg
    generalize hrs : syncM ({ { anyM with tv := (a.tv <<< n), tm := (a.tm <<< n) } with ul := l, uh := h } : Bd) = RS at csy
    refine deeds_of hg hk (fun pa _ => .inl ?_) (fun w => ?_)
    · show (a.tm <<< n) = 0#64
      rw [show a.tm = 0#64 by rw [pa]; rfl]
      simp
    rw [hrs]
    go_enter Tryz.func132, Tryz.ntmps132
    go_upto_region 1 with fail
    have HA : AtA (((w.alloc (.cells (bv a) 30)).alloc (.cells (bv b) 30)).alloc (.cells (bv zeroM) 30)) w.heap.size (bv a) 30 := ((AtA.newb _ rfl _ _).alloc _).alloc _
    have HB : AtA (((w.alloc (.cells (bv a) 30)).alloc (.cells (bv b) 30)).alloc (.cells (bv zeroM) 30)) (w.heap.size + 1) (bv b) 30 := (AtA.newb _ (by simp) _ _).alloc _
    have HR : AtA (((w.alloc (.cells (bv a) 30)).alloc (.cells (bv b) 30)).alloc (.cells (bv zeroM) 30)) (w.heap.size + 1 + 1) (bv zeroM) 30 := AtA.newb _ (by simp) _ _
    have HF : Gr w (((w.alloc (.cells (bv a) 30)).alloc (.cells (bv b) 30)).alloc (.cells (bv zeroM) 30)) := Gr.alloc (Gr.alloc (Gr.alloc (Gr.refl w) _ _) _ _) _ _
    have nAR : w.heap.size ≠ w.heap.size + 1 + 1 := by omega
    have nBR : w.heap.size + 1 ≠ w.heap.size + 1 + 1 := by omega
    have hPR : w.heap.size ≤ w.heap.size + 1 + 1 := by omega
    revert HA HB HR HF nAR nBR hPR
    rw [bv_zero]
    generalize (((w.alloc (.cells (bv a) 30)).alloc (.cells (bv b) 30)).alloc (.cells _ 30)) = W0
    generalize w.heap.size + 1 + 1 = PR
    generalize w.heap.size + 1 = PB
    generalize hw0 : w.heap.size = PA
    intro HA HB HR HF nAR nBR hPR
    rw [← hw0] at hPR
    rw [← bv_zero] at HR
    refine wp_region_seqW (by kernel_rfl) ?_
    refine seq_do ?_
    refine wp_call0 rfl (by go_simp) ?_
    refine ((k_any) _).mono ?_
    rintro e wk1 ⟨rfl, hk1⟩
    refine ⟨_, rfl, ?_⟩
    have hPA_1 := (HA).gr hk1
    have hPB_1 := (HB).gr hk1
    have hPR_1 := (HR).gr hk1
    have hF_1 := (HF).trans hk1
    refine seq_do ?_
    refine wp_allocB rfl ?_
    intro ws2 hn2 hg2
    have hge2 := (hF_1).below.size
    have hnePA_PN2 : PA ≠ wk1.heap.size := Nat.ne_of_lt (hPA_1).lt
    have hnePB_PN2 : PB ≠ wk1.heap.size := Nat.ne_of_lt (hPB_1).lt
    have hnePR_PN2 : PR ≠ wk1.heap.size := Nat.ne_of_lt (hPR_1).lt
    have hPA_2 := (hPA_1).gr hg2
    have hPB_2 := (hPB_1).gr hg2
    have hPR_2 := (hPR_1).gr hg2
    have hF_2 := (hF_1).trans hg2
    revert hn2 hge2 hnePA_PN2 hnePB_PN2 hnePR_PN2
    generalize wk1.heap.size = PN2
    intro hn2 hge2 hnePA_PN2 hnePB_PN2 hnePR_PN2
    refine seq_do ?_
    refine wp_storeB rfl rfl rfl (hn2) ?_
    intro ws3 hs3 gx3
    have hPA_3 := (hPA_2).grx gx3 hnePA_PN2
    have hPB_3 := (hPB_2).grx gx3 hnePB_PN2
    have hPR_3 := (hPR_2).grx gx3 hnePR_PN2
    have hF_3 := gx3.gr _ (hF_2) hge2
    simp only [Act.put, List.setIfInBounds_toArray, List.set_cons_zero, List.set_cons_succ]
    refine seq_end ?_
    go_upto_region 2 with fail
    refine wp_region_seqq (C := Gr ws3) (Gr.refl _) ?_
    refine q_do (by rfl) ?_
    refine q_loadB rfl rfl (fun w h => (hPB_3).gr h) ?_
    refine q_do (by rfl) ?_
    refine q_call1 rfl rfl (fun w => by go_simp) (grc (fun w => k_six b _ hq w) (rfl)) ?_
    refine q_do (by rfl) ?_
    refine q_move (v := .tuple #[.int .u64 (iv (b.tv &&& (1#64 <<< 6 - 1#64))), .bool true]) rfl rfl ?_
    simp only [Act.put, List.setIfInBounds_toArray, List.set_cons_zero, List.set_cons_succ]
    refine q_do (by rfl) ?_
    refine q_extract (v := .int .u64 (iv (b.tv &&& (1#64 <<< 6 - 1#64)))) rfl rfl rfl ?_
    refine q_do (by rfl) ?_
    refine q_extract (v := .bool true) rfl rfl rfl ?_
    refine q_do (by rfl) ?_
    refine q_assign (v := .int .u64 (iv (b.tv &&& (1#64 <<< 6 - 1#64)))) rfl rfl ?_
    simp only [Act.put, List.setIfInBounds_toArray, List.set_cons_zero, List.set_cons_succ]
    refine q_do (by rfl) ?_
    refine q_assign (v := .bool true) rfl rfl ?_
    simp only [Act.put, List.setIfInBounds_toArray, List.set_cons_zero, List.set_cons_succ]
    intro wq4 hq4
    have hPA_4 := (hPA_3).gr hq4
    have hPB_4 := (hPB_3).gr hq4
    have hPR_4 := (hPR_3).gr hq4
    have hPN2_4 := (hs3).gr hq4
    have hF_4 := (hF_3).trans hq4
    go_upto_region 4 with fail
    rw [show iv (b.tv &&& (1#64 <<< 6 - 1#64)) = (n : Int) by rw [hnn]; rfl]
    refine wp_region_qln (C := Gr wq4) 9 (by kernel_rfl) (by kernel_rfl) (by kernel_rfl) (by kernel_rfl) (by kernel_rfl) (Gr.drew (Gr.refl _)) ?_
    refine q_do (by rfl) ?_
    refine q_fa0 rfl rfl ?_
    refine q_do (by rfl) ?_
    refine q_pT rfl rfl (fun w h => (hPA_4).gr h) rfl rfl ?_
    refine q_do (by rfl) ?_
    refine q_move (v := .int .u64 (n : Int)) rfl rfl ?_
    simp only [Act.put, List.setIfInBounds_toArray, List.set_cons_zero, List.set_cons_succ]
    refine q_do (by rfl) ?_
    refine q_call2 rfl rfl rfl (fun w => by go_simp) (grc (fun w => cv (Tn.shl_any a.tv a.tm n w)) (rfl)) ?_
    refine q_do (by rfl) ?_
    refine q_fa1 rfl rfl ?_
    refine q_do (by rfl) ?_
    refine q_pU rfl rfl (fun w h => (hPA_4).gr h) rfl rfl ?_
    simp only [Act.put, List.setIfInBounds_toArray, List.set_cons_zero, List.set_cons_succ]
    refine q_do (by rfl) ?_
    refine q_move (v := .int .u64 (n : Int)) rfl rfl ?_
    refine q_do (by rfl) ?_
    refine q_call2 rfl rfl rfl (fun w => by go_simp) (grc (cu) (rfl)) ?_
    refine q_do (by rfl) ?_
    refine q_fa0 rfl rfl ?_
    simp only [Act.put, List.setIfInBounds_toArray, List.set_cons_zero, List.set_cons_succ]
    intro wq5 hq5
    have hPA_5 := (hPA_4).gr hq5
    have hPB_5 := (hPB_4).gr hq5
    have hPR_5 := (hPR_4).gr hq5
    have hPN2_5 := (hPN2_4).gr hq5
    have hF_5 := (hF_4).trans hq5
    refine seq_do ?_
    refine wp_stT rfl rfl rfl (hPN2_5) ?_
    intro ws6 hs6 gx6
    have hPA_6 := (hPA_5).grx gx6 hnePA_PN2
    have hPB_6 := (hPB_5).grx gx6 hnePB_PN2
    have hPR_6 := (hPR_5).grx gx6 hnePR_PN2
    have hF_6 := gx6.gr _ (hF_5) hge2
    refine seq_do ?_
    refine wp_fa1 rfl rfl ?_
    refine seq_do ?_
    refine wp_stU rfl rfl rfl (hs6) ?_
    intro ws7 hs7 gx7
    have hPA_7 := (hPA_6).grx gx7 hnePA_PN2
    have hPB_7 := (hPB_6).grx gx7 hnePB_PN2
    have hPR_7 := (hPR_6).grx gx7 hnePR_PN2
    have hF_7 := gx7.gr _ (hF_6) hge2
    simp only [Act.put, List.setIfInBounds_toArray, List.set_cons_zero, List.set_cons_succ]
    refine seq_end ?_
    go_upto_region 5 with fail
    refine wp_region_seqW (by kernel_rfl) ?_
    refine seq_do ?_
    refine wp_loadB rfl rfl (hs7) ?_
    refine seq_do ?_
    refine wp_call1 rfl rfl (by go_simp) ?_
    refine ((csy) _).mono ?_
    rintro e wk8 ⟨rfl, hk8⟩
    refine ⟨_, rfl, ?_⟩
    have hPA_8 := (hPA_7).gr hk8
    have hPB_8 := (hPB_7).gr hk8
    have hPR_8 := (hPR_7).gr hk8
    have hPN2_8 := (hs7).gr hk8
    have hF_8 := (hF_7).trans hk8
    refine seq_do ?_
    refine wp_storeB rfl rfl rfl (hPR_8) ?_
    intro ws9 hs9 gx9
    have hPA_9 := (hPA_8).grx gx9 nAR
    have hPB_9 := (hPB_8).grx gx9 nBR
    have hPN2_9 := (hPN2_8).grx gx9 (Ne.symm hnePR_PN2)
    have hF_9 := gx9.gr _ (hF_8) hPR
    simp only [Act.put, List.setIfInBounds_toArray, List.set_cons_zero, List.set_cons_succ]
    refine seq_end ?_
    obtain ⟨r0, r1, r2, r3, r4, r5, r6, r7, r8, r9⟩ := cells_bv (hs9)
    go_wp2
    refine bodyPost_ret (by simp [results, Tryz.results132, go_sem, r0, r1, r2, r3, r4, r5, r6, r7, r8, r9]; try rfl) rfl ?_
    exact ⟨rfl, hF_9⟩
  | false =>
    have hk := has_any (x <<< (y &&& (1#64 <<< 6 - 1#64)).toNat)
    have csy := fun w => k_sync anyM w good_any
    generalize hrs : syncM anyM = RS at csy
    refine deeds_of good_any hk (fun _ pb => absurd hq (by rw [pb]; decide)) (fun w => ?_)
    rw [hrs]
    go_enter Tryz.func132, Tryz.ntmps132
    go_upto_region 1 with fail
    have HA : AtA (((w.alloc (.cells (bv a) 30)).alloc (.cells (bv b) 30)).alloc (.cells (bv zeroM) 30)) w.heap.size (bv a) 30 := ((AtA.newb _ rfl _ _).alloc _).alloc _
    have HB : AtA (((w.alloc (.cells (bv a) 30)).alloc (.cells (bv b) 30)).alloc (.cells (bv zeroM) 30)) (w.heap.size + 1) (bv b) 30 := (AtA.newb _ (by simp) _ _).alloc _
    have HR : AtA (((w.alloc (.cells (bv a) 30)).alloc (.cells (bv b) 30)).alloc (.cells (bv zeroM) 30)) (w.heap.size + 1 + 1) (bv zeroM) 30 := AtA.newb _ (by simp) _ _
    have HF : Gr w (((w.alloc (.cells (bv a) 30)).alloc (.cells (bv b) 30)).alloc (.cells (bv zeroM) 30)) := Gr.alloc (Gr.alloc (Gr.alloc (Gr.refl w) _ _) _ _) _ _
    have nAR : w.heap.size ≠ w.heap.size + 1 + 1 := by omega
    have nBR : w.heap.size + 1 ≠ w.heap.size + 1 + 1 := by omega
    have hPR : w.heap.size ≤ w.heap.size + 1 + 1 := by omega
    revert HA HB HR HF nAR nBR hPR
    rw [bv_zero]
    generalize (((w.alloc (.cells (bv a) 30)).alloc (.cells (bv b) 30)).alloc (.cells _ 30)) = W0
    generalize w.heap.size + 1 + 1 = PR
    generalize w.heap.size + 1 = PB
    generalize hw0 : w.heap.size = PA
    intro HA HB HR HF nAR nBR hPR
    rw [← hw0] at hPR
    rw [← bv_zero] at HR
    refine wp_region_seqW (by kernel_rfl) ?_
    refine seq_do ?_
    refine wp_call0 rfl (by go_simp) ?_
    refine ((k_any) _).mono ?_
    rintro e wk1 ⟨rfl, hk1⟩
    refine ⟨_, rfl, ?_⟩
    have hPA_1 := (HA).gr hk1
    have hPB_1 := (HB).gr hk1
    have hPR_1 := (HR).gr hk1
    have hF_1 := (HF).trans hk1
    refine seq_do ?_
    refine wp_allocB rfl ?_
    intro ws2 hn2 hg2
    have hge2 := (hF_1).below.size
    have hnePA_PN2 : PA ≠ wk1.heap.size := Nat.ne_of_lt (hPA_1).lt
    have hnePB_PN2 : PB ≠ wk1.heap.size := Nat.ne_of_lt (hPB_1).lt
    have hnePR_PN2 : PR ≠ wk1.heap.size := Nat.ne_of_lt (hPR_1).lt
    have hPA_2 := (hPA_1).gr hg2
    have hPB_2 := (hPB_1).gr hg2
    have hPR_2 := (hPR_1).gr hg2
    have hF_2 := (hF_1).trans hg2
    revert hn2 hge2 hnePA_PN2 hnePB_PN2 hnePR_PN2
    generalize wk1.heap.size = PN2
    intro hn2 hge2 hnePA_PN2 hnePB_PN2 hnePR_PN2
    refine seq_do ?_
    refine wp_storeB rfl rfl rfl (hn2) ?_
    intro ws3 hs3 gx3
    have hPA_3 := (hPA_2).grx gx3 hnePA_PN2
    have hPB_3 := (hPB_2).grx gx3 hnePB_PN2
    have hPR_3 := (hPR_2).grx gx3 hnePR_PN2
    have hF_3 := gx3.gr _ (hF_2) hge2
    simp only [Act.put, List.setIfInBounds_toArray, List.set_cons_zero, List.set_cons_succ]
    refine seq_end ?_
    go_upto_region 2 with fail
    refine wp_region_seqq (C := Gr ws3) (Gr.refl _) ?_
    refine q_do (by rfl) ?_
    refine q_loadB rfl rfl (fun w h => (hPB_3).gr h) ?_
    refine q_do (by rfl) ?_
    refine q_call1 rfl rfl (fun w => by go_simp) (grc (fun w => k_six b _ hq w) (rfl)) ?_
    refine q_do (by rfl) ?_
    refine q_move (v := .tuple #[.int .u64 (iv (b.tv &&& (1#64 <<< 6 - 1#64))), .bool false]) rfl rfl ?_
    simp only [Act.put, List.setIfInBounds_toArray, List.set_cons_zero, List.set_cons_succ]
    refine q_do (by rfl) ?_
    refine q_extract (v := .int .u64 (iv (b.tv &&& (1#64 <<< 6 - 1#64)))) rfl rfl rfl ?_
    refine q_do (by rfl) ?_
    refine q_extract (v := .bool false) rfl rfl rfl ?_
    refine q_do (by rfl) ?_
    refine q_assign (v := .int .u64 (iv (b.tv &&& (1#64 <<< 6 - 1#64)))) rfl rfl ?_
    simp only [Act.put, List.setIfInBounds_toArray, List.set_cons_zero, List.set_cons_succ]
    refine q_do (by rfl) ?_
    refine q_assign (v := .bool false) rfl rfl ?_
    simp only [Act.put, List.setIfInBounds_toArray, List.set_cons_zero, List.set_cons_succ]
    intro wq4 hq4
    have hPA_4 := (hPA_3).gr hq4
    have hPB_4 := (hPB_3).gr hq4
    have hPR_4 := (hPR_3).gr hq4
    have hPN2_4 := (hs3).gr hq4
    have hF_4 := (hF_3).trans hq4
    go_upto_region 5 with fail
    refine wp_region_seqW (by kernel_rfl) ?_
    refine seq_do ?_
    refine wp_loadB rfl rfl (hPN2_4) ?_
    refine seq_do ?_
    refine wp_call1 rfl rfl (by go_simp) ?_
    refine ((csy) _).mono ?_
    rintro e wk5 ⟨rfl, hk5⟩
    refine ⟨_, rfl, ?_⟩
    have hPA_5 := (hPA_4).gr hk5
    have hPB_5 := (hPB_4).gr hk5
    have hPR_5 := (hPR_4).gr hk5
    have hPN2_5 := (hPN2_4).gr hk5
    have hF_5 := (hF_4).trans hk5
    refine seq_do ?_
    refine wp_storeB rfl rfl rfl (hPR_5) ?_
    intro ws6 hs6 gx6
    have hPA_6 := (hPA_5).grx gx6 nAR
    have hPB_6 := (hPB_5).grx gx6 nBR
    have hPN2_6 := (hPN2_5).grx gx6 (Ne.symm hnePR_PN2)
    have hF_6 := gx6.gr _ (hF_5) hPR
    simp only [Act.put, List.setIfInBounds_toArray, List.set_cons_zero, List.set_cons_succ]
    refine seq_end ?_
    obtain ⟨r0, r1, r2, r3, r4, r5, r6, r7, r8, r9⟩ := cells_bv (hs6)
    go_wp2
    refine bodyPost_ret (by simp [results, Tryz.results132, go_sem, r0, r1, r2, r3, r4, r5, r6, r7, r8, r9]; try rfl) rfl ?_
    exact ⟨rfl, hF_6⟩
set_option maxHeartbeats 4000000 in
theorem d_shr {a b : Bd} {x y : BitVec 64} (ga : Good a) (gb : Good b) (ka : Has a x) (kb : Has b y) : DeedS 133 a b x (x >>> (y &&& (1#64 <<< 6 - 1#64)).toNat) := by
  cases hq : (iv (b.tm &&& (1#64 <<< 6 - 1#64)) == 0) with
  | true =>
    have hn := six_eq kb hq
    obtain ⟨n, hnn⟩ : ∃ n : Nat, n = (b.tv &&& (1#64 <<< 6 - 1#64)).toNat := ⟨_, rfl⟩
    rw [hn, ← hnn]
    have hn6 : n ≤ 63 := by rw [hnn]; exact six_le b.tv
    obtain ⟨l, h, u1, u2, u3, u4, cu⟩ := e_shr ga.iu0 ga.iu1 (iv_range x) n ka.u0 ka.u1
    rw [shr_iv x hn6] at u3 u4
    have hz := has_any (x >>> n)
    have hk : Has ({ { anyM with tv := (a.tv >>> n), tm := (a.tm >>> n) } with ul := l, uh := h } : Bd) (x >>> n) := ⟨t_of (Tn.shr_ok ga.ok n) (Tn.shr_has ka.th n), u3, u4, hz.s0, hz.s1, hz.w0, hz.w1, hz.v0, hz.v1⟩
    have hg : Good ({ { anyM with tv := (a.tv >>> n), tm := (a.tm >>> n) } with ul := l, uh := h } : Bd) := good_by (Tn.shr_ok ga.ok n) hk u1.1 u2.2 good_any.s0 good_any.s2 good_any.w0 good_any.w2 good_any.v0 good_any.v2
    have csy := fun w => k_sync ({ { anyM with tv := (a.tv >>> n), tm := (a.tm >>> n) } with ul := l, uh := h } : Bd) w hg
    generalize hrs : syncM ({ { anyM with tv := (a.tv >>> n), tm := (a.tm >>> n) } with ul := l, uh := h } : Bd) = RS at csy
    refine deeds_of hg hk (fun pa _ => .inl ?_) (fun w => ?_)
    · show (a.tm >>> n) = 0#64
      rw [show a.tm = 0#64 by rw [pa]; rfl]
      simp
    rw [hrs]
    go_enter Tryz.func133, Tryz.ntmps133
    go_upto_region 1 with fail
    have HA : AtA (((w.alloc (.cells (bv a) 30)).alloc (.cells (bv b) 30)).alloc (.cells (bv zeroM) 30)) w.heap.size (bv a) 30 := ((AtA.newb _ rfl _ _).alloc _).alloc _
    have HB : AtA (((w.alloc (.cells (bv a) 30)).alloc (.cells (bv b) 30)).alloc (.cells (bv zeroM) 30)) (w.heap.size + 1) (bv b) 30 := (AtA.newb _ (by simp) _ _).alloc _
    have HR : AtA (((w.alloc (.cells (bv a) 30)).alloc (.cells (bv b) 30)).alloc (.cells (bv zeroM) 30)) (w.heap.size + 1 + 1) (bv zeroM) 30 := AtA.newb _ (by simp) _ _
    have HF : Gr w (((w.alloc (.cells (bv a) 30)).alloc (.cells (bv b) 30)).alloc (.cells (bv zeroM) 30)) := Gr.alloc (Gr.alloc (Gr.alloc (Gr.refl w) _ _) _ _) _ _
    have nAR : w.heap.size ≠ w.heap.size + 1 + 1 := by omega
    have nBR : w.heap.size + 1 ≠ w.heap.size + 1 + 1 := by omega
    have hPR : w.heap.size ≤ w.heap.size + 1 + 1 := by omega
    revert HA HB HR HF nAR nBR hPR
    rw [bv_zero]
    generalize (((w.alloc (.cells (bv a) 30)).alloc (.cells (bv b) 30)).alloc (.cells _ 30)) = W0
    generalize w.heap.size + 1 + 1 = PR
    generalize w.heap.size + 1 = PB
    generalize hw0 : w.heap.size = PA
    intro HA HB HR HF nAR nBR hPR
    rw [← hw0] at hPR
    rw [← bv_zero] at HR
    refine wp_region_seqq (C := Gr W0) (Gr.refl _) ?_
    refine q_do (by rfl) ?_
    refine q_loadB rfl rfl (fun w h => (HB).gr h) ?_
    refine q_do (by rfl) ?_
    refine q_call1 rfl rfl (fun w => by go_simp) (grc (fun w => k_six b _ hq w) (rfl)) ?_
    refine q_do (by rfl) ?_
    refine q_move (v := .tuple #[.int .u64 (iv (b.tv &&& (1#64 <<< 6 - 1#64))), .bool true]) rfl rfl ?_
    simp only [Act.put, List.setIfInBounds_toArray, List.set_cons_zero, List.set_cons_succ]
    refine q_do (by rfl) ?_
    refine q_extract (v := .int .u64 (iv (b.tv &&& (1#64 <<< 6 - 1#64)))) rfl rfl rfl ?_
    refine q_do (by rfl) ?_
    refine q_extract (v := .bool true) rfl rfl rfl ?_
    refine q_do (by rfl) ?_
    refine q_assign (v := .int .u64 (iv (b.tv &&& (1#64 <<< 6 - 1#64)))) rfl rfl ?_
    simp only [Act.put, List.setIfInBounds_toArray, List.set_cons_zero, List.set_cons_succ]
    refine q_do (by rfl) ?_
    refine q_assign (v := .bool true) rfl rfl ?_
    simp only [Act.put, List.setIfInBounds_toArray, List.set_cons_zero, List.set_cons_succ]
    intro wq1 hq1
    have hPA_1 := (HA).gr hq1
    have hPB_1 := (HB).gr hq1
    have hPR_1 := (HR).gr hq1
    have hF_1 := (HF).trans hq1
    go_upto_region 4 with fail
    refine wp_region_seqW (by kernel_rfl) ?_
    refine seq_do ?_
    refine wp_call0 rfl (by go_simp) ?_
    refine ((k_any) _).mono ?_
    rintro e wk2 ⟨rfl, hk2⟩
    refine ⟨_, rfl, ?_⟩
    have hPA_2 := (hPA_1).gr hk2
    have hPB_2 := (hPB_1).gr hk2
    have hPR_2 := (hPR_1).gr hk2
    have hF_2 := (hF_1).trans hk2
    refine seq_do ?_
    refine wp_allocB rfl ?_
    intro ws3 hn3 hg3
    have hge3 := (hF_2).below.size
    have hnePA_PN3 : PA ≠ wk2.heap.size := Nat.ne_of_lt (hPA_2).lt
    have hnePB_PN3 : PB ≠ wk2.heap.size := Nat.ne_of_lt (hPB_2).lt
    have hnePR_PN3 : PR ≠ wk2.heap.size := Nat.ne_of_lt (hPR_2).lt
    have hPA_3 := (hPA_2).gr hg3
    have hPB_3 := (hPB_2).gr hg3
    have hPR_3 := (hPR_2).gr hg3
    have hF_3 := (hF_2).trans hg3
    revert hn3 hge3 hnePA_PN3 hnePB_PN3 hnePR_PN3
    generalize wk2.heap.size = PN3
    intro hn3 hge3 hnePA_PN3 hnePB_PN3 hnePR_PN3
    refine seq_do ?_
    refine wp_storeB rfl rfl rfl (hn3) ?_
    intro ws4 hs4 gx4
    have hPA_4 := (hPA_3).grx gx4 hnePA_PN3
    have hPB_4 := (hPB_3).grx gx4 hnePB_PN3
    have hPR_4 := (hPR_3).grx gx4 hnePR_PN3
    have hF_4 := gx4.gr _ (hF_3) hge3
    simp only [Act.put, List.setIfInBounds_toArray, List.set_cons_zero, List.set_cons_succ]
    refine seq_end ?_
    go_upto_region 5 with fail
    rw [show iv (b.tv &&& (1#64 <<< 6 - 1#64)) = (n : Int) by rw [hnn]; rfl]
    refine wp_region_qln (C := Gr ws4) 9 (by kernel_rfl) (by kernel_rfl) (by kernel_rfl) (by kernel_rfl) (by kernel_rfl) (Gr.drew (Gr.refl _)) ?_
    refine q_do (by rfl) ?_
    refine q_fa0 rfl rfl ?_
    refine q_do (by rfl) ?_
    refine q_pT rfl rfl (fun w h => (hPA_4).gr h) rfl rfl ?_
    refine q_do (by rfl) ?_
    refine q_move (v := .int .u64 (n : Int)) rfl rfl ?_
    simp only [Act.put, List.setIfInBounds_toArray, List.set_cons_zero, List.set_cons_succ]
    refine q_do (by rfl) ?_
    refine q_call2 rfl rfl rfl (fun w => by go_simp) (grc (fun w => cv (Tn.shr_any a.tv a.tm n w)) (rfl)) ?_
    refine q_do (by rfl) ?_
    refine q_fa1 rfl rfl ?_
    refine q_do (by rfl) ?_
    refine q_pU rfl rfl (fun w h => (hPA_4).gr h) rfl rfl ?_
    simp only [Act.put, List.setIfInBounds_toArray, List.set_cons_zero, List.set_cons_succ]
    refine q_do (by rfl) ?_
    refine q_move (v := .int .u64 (n : Int)) rfl rfl ?_
    refine q_do (by rfl) ?_
    refine q_call2 rfl rfl rfl (fun w => by go_simp) (grc (cu) (rfl)) ?_
    refine q_do (by rfl) ?_
    refine q_fa0 rfl rfl ?_
    simp only [Act.put, List.setIfInBounds_toArray, List.set_cons_zero, List.set_cons_succ]
    intro wq5 hq5
    have hPA_5 := (hPA_4).gr hq5
    have hPB_5 := (hPB_4).gr hq5
    have hPR_5 := (hPR_4).gr hq5
    have hPN3_5 := (hs4).gr hq5
    have hF_5 := (hF_4).trans hq5
    refine seq_do ?_
    refine wp_stT rfl rfl rfl (hPN3_5) ?_
    intro ws6 hs6 gx6
    have hPA_6 := (hPA_5).grx gx6 hnePA_PN3
    have hPB_6 := (hPB_5).grx gx6 hnePB_PN3
    have hPR_6 := (hPR_5).grx gx6 hnePR_PN3
    have hF_6 := gx6.gr _ (hF_5) hge3
    refine seq_do ?_
    refine wp_fa1 rfl rfl ?_
    refine seq_do ?_
    refine wp_stU rfl rfl rfl (hs6) ?_
    intro ws7 hs7 gx7
    have hPA_7 := (hPA_6).grx gx7 hnePA_PN3
    have hPB_7 := (hPB_6).grx gx7 hnePB_PN3
    have hPR_7 := (hPR_6).grx gx7 hnePR_PN3
    have hF_7 := gx7.gr _ (hF_6) hge3
    simp only [Act.put, List.setIfInBounds_toArray, List.set_cons_zero, List.set_cons_succ]
    refine seq_end ?_
    go_upto_region 6 with fail
    refine wp_region_seqW (by kernel_rfl) ?_
    refine seq_do ?_
    refine wp_loadB rfl rfl (hs7) ?_
    refine seq_do ?_
    refine wp_call1 rfl rfl (by go_simp) ?_
    refine ((csy) _).mono ?_
    rintro e wk8 ⟨rfl, hk8⟩
    refine ⟨_, rfl, ?_⟩
    have hPA_8 := (hPA_7).gr hk8
    have hPB_8 := (hPB_7).gr hk8
    have hPR_8 := (hPR_7).gr hk8
    have hPN3_8 := (hs7).gr hk8
    have hF_8 := (hF_7).trans hk8
    refine seq_do ?_
    refine wp_storeB rfl rfl rfl (hPR_8) ?_
    intro ws9 hs9 gx9
    have hPA_9 := (hPA_8).grx gx9 nAR
    have hPB_9 := (hPB_8).grx gx9 nBR
    have hPN3_9 := (hPN3_8).grx gx9 (Ne.symm hnePR_PN3)
    have hF_9 := gx9.gr _ (hF_8) hPR
    simp only [Act.put, List.setIfInBounds_toArray, List.set_cons_zero, List.set_cons_succ]
    refine seq_end ?_
    obtain ⟨r0, r1, r2, r3, r4, r5, r6, r7, r8, r9⟩ := cells_bv (hs9)
    go_wp2
    refine bodyPost_ret (by simp [results, Tryz.results133, go_sem, r0, r1, r2, r3, r4, r5, r6, r7, r8, r9]; try rfl) rfl ?_
    exact ⟨rfl, hF_9⟩
  | false =>
    have hle := shr_le x (y &&& (1#64 <<< 6 - 1#64)).toNat
    obtain ⟨hk, hg⟩ := inspan_of (l := 0) (h := a.uh) (z := x >>> (y &&& (1#64 <<< 6 - 1#64)).toNat) inU0 ga.iu1 (iv_range _).1 (Int.le_trans hle ka.u1)
    have csy := fun w => k_inSpan 0 a.uh hg w
    generalize hrs : syncM ({ anyM with ul := 0, uh := a.uh } : Bd) = RS at csy
    refine deeds_of hg hk (fun _ pb => absurd hq (by rw [pb]; decide)) (fun w => ?_)
    rw [hrs]
    go_enter Tryz.func133, Tryz.ntmps133
    go_upto_region 1 with fail
    have HA : AtA (((w.alloc (.cells (bv a) 30)).alloc (.cells (bv b) 30)).alloc (.cells (bv zeroM) 30)) w.heap.size (bv a) 30 := ((AtA.newb _ rfl _ _).alloc _).alloc _
    have HB : AtA (((w.alloc (.cells (bv a) 30)).alloc (.cells (bv b) 30)).alloc (.cells (bv zeroM) 30)) (w.heap.size + 1) (bv b) 30 := (AtA.newb _ (by simp) _ _).alloc _
    have HR : AtA (((w.alloc (.cells (bv a) 30)).alloc (.cells (bv b) 30)).alloc (.cells (bv zeroM) 30)) (w.heap.size + 1 + 1) (bv zeroM) 30 := AtA.newb _ (by simp) _ _
    have HF : Gr w (((w.alloc (.cells (bv a) 30)).alloc (.cells (bv b) 30)).alloc (.cells (bv zeroM) 30)) := Gr.alloc (Gr.alloc (Gr.alloc (Gr.refl w) _ _) _ _) _ _
    have nAR : w.heap.size ≠ w.heap.size + 1 + 1 := by omega
    have nBR : w.heap.size + 1 ≠ w.heap.size + 1 + 1 := by omega
    have hPR : w.heap.size ≤ w.heap.size + 1 + 1 := by omega
    revert HA HB HR HF nAR nBR hPR
    rw [bv_zero]
    generalize (((w.alloc (.cells (bv a) 30)).alloc (.cells (bv b) 30)).alloc (.cells _ 30)) = W0
    generalize w.heap.size + 1 + 1 = PR
    generalize w.heap.size + 1 = PB
    generalize hw0 : w.heap.size = PA
    intro HA HB HR HF nAR nBR hPR
    rw [← hw0] at hPR
    rw [← bv_zero] at HR
    refine wp_region_seqq (C := Gr W0) (Gr.refl _) ?_
    refine q_do (by rfl) ?_
    refine q_loadB rfl rfl (fun w h => (HB).gr h) ?_
    refine q_do (by rfl) ?_
    refine q_call1 rfl rfl (fun w => by go_simp) (grc (fun w => k_six b _ hq w) (rfl)) ?_
    refine q_do (by rfl) ?_
    refine q_move (v := .tuple #[.int .u64 (iv (b.tv &&& (1#64 <<< 6 - 1#64))), .bool false]) rfl rfl ?_
    simp only [Act.put, List.setIfInBounds_toArray, List.set_cons_zero, List.set_cons_succ]
    refine q_do (by rfl) ?_
    refine q_extract (v := .int .u64 (iv (b.tv &&& (1#64 <<< 6 - 1#64)))) rfl rfl rfl ?_
    refine q_do (by rfl) ?_
    refine q_extract (v := .bool false) rfl rfl rfl ?_
    refine q_do (by rfl) ?_
    refine q_assign (v := .int .u64 (iv (b.tv &&& (1#64 <<< 6 - 1#64)))) rfl rfl ?_
    simp only [Act.put, List.setIfInBounds_toArray, List.set_cons_zero, List.set_cons_succ]
    refine q_do (by rfl) ?_
    refine q_assign (v := .bool false) rfl rfl ?_
    simp only [Act.put, List.setIfInBounds_toArray, List.set_cons_zero, List.set_cons_succ]
    intro wq1 hq1
    have hPA_1 := (HA).gr hq1
    have hPB_1 := (HB).gr hq1
    have hPR_1 := (HR).gr hq1
    have hF_1 := (HF).trans hq1
    go_upto_region 3 with fail
    refine wp_region_sqn (C := Gr wq1) 5 (by kernel_rfl) (Gr.refl _) ?_
    refine q_do (by rfl) ?_
    refine q_fa1 rfl rfl ?_
    refine q_do (by rfl) ?_
    refine q_fU1 rfl rfl ?_
    refine q_do (by rfl) ?_
    refine q_p64 rfl rfl (fun w h => (hPA_1).gr h) rfl ?_
    simp only [Act.put, List.setIfInBounds_toArray, List.set_cons_zero, List.set_cons_succ]
    refine q_do (by rfl) ?_
    refine q_buildU1 rfl rfl ?_
    refine q_do (by rfl) ?_
    refine q_call1 rfl rfl (fun w => by go_simp) (grc (csy) (rfl)) ?_
    simp only [Act.put, List.setIfInBounds_toArray, List.set_cons_zero, List.set_cons_succ]
    intro wq2 hq2
    have hPA_2 := (hPA_1).gr hq2
    have hPB_2 := (hPB_1).gr hq2
    have hPR_2 := (hPR_1).gr hq2
    have hF_2 := (hF_1).trans hq2
    refine seq_do ?_
    refine wp_storeB rfl rfl rfl (hPR_2) ?_
    intro ws3 hs3 gx3
    have hPA_3 := (hPA_2).grx gx3 nAR
    have hPB_3 := (hPB_2).grx gx3 nBR
    have hF_3 := gx3.gr _ (hF_2) hPR
    simp only [Act.put, List.setIfInBounds_toArray, List.set_cons_zero, List.set_cons_succ]
    refine seq_end ?_
    obtain ⟨r0, r1, r2, r3, r4, r5, r6, r7, r8, r9⟩ := cells_bv (hs3)
    go_wp2
    refine bodyPost_ret (by simp [results, Tryz.results133, go_sem, r0, r1, r2, r3, r4, r5, r6, r7, r8, r9]; try rfl) rfl ?_
    exact ⟨rfl, hF_3⟩
set_option maxHeartbeats 4000000 in
theorem d_sar {a b : Bd} {x y : BitVec 64} (ga : Good a) (gb : Good b) (ka : Has a x) (kb : Has b y) : DeedS 134 a b x (x.sshiftRight (y &&& (1#64 <<< 6 - 1#64)).toNat) := by
  cases hq : (iv (b.tm &&& (1#64 <<< 6 - 1#64)) == 0) with
  | true =>
    have hn := six_eq kb hq
    obtain ⟨n, hnn⟩ : ∃ n : Nat, n = (b.tv &&& (1#64 <<< 6 - 1#64)).toNat := ⟨_, rfl⟩
    rw [hn, ← hnn]
    have hn6 : n ≤ 63 := by rw [hnn]; exact six_le b.tv
    obtain ⟨l, h, u1, u2, u3, u4, cu⟩ := e_sar ga.is0 ga.is1 (inS_w (iv x)) n ka.s0 ka.s1
    rw [sar_iv x hn6] at u3 u4
    have hz := has_any (x.sshiftRight n)
    have hk : Has ({ { anyM with tv := (a.tv.sshiftRight n), tm := (a.tm.sshiftRight n) } with sl := l, sh := h } : Bd) (x.sshiftRight n) := ⟨t_of (Tn.sar_ok ga.ok n) (Tn.sar_has ka.th n), hz.u0, hz.u1, u3, u4, hz.w0, hz.w1, hz.v0, hz.v1⟩
    have hg : Good ({ { anyM with tv := (a.tv.sshiftRight n), tm := (a.tm.sshiftRight n) } with sl := l, sh := h } : Bd) := good_by (Tn.sar_ok ga.ok n) hk good_any.u0 good_any.u2 u1.1 u2.2 good_any.w0 good_any.w2 good_any.v0 good_any.v2
    have csy := fun w => k_sync ({ { anyM with tv := (a.tv.sshiftRight n), tm := (a.tm.sshiftRight n) } with sl := l, sh := h } : Bd) w hg
    generalize hrs : syncM ({ { anyM with tv := (a.tv.sshiftRight n), tm := (a.tm.sshiftRight n) } with sl := l, sh := h } : Bd) = RS at csy
    refine deeds_of hg hk (fun pa _ => .inl ?_) (fun w => ?_)
    · show (a.tm.sshiftRight n) = 0#64
      rw [show a.tm = 0#64 by rw [pa]; rfl]
      simp
    rw [hrs]
    go_enter Tryz.func134, Tryz.ntmps134
    go_upto_region 1 with fail
    have HA : AtA (((w.alloc (.cells (bv a) 30)).alloc (.cells (bv b) 30)).alloc (.cells (bv zeroM) 30)) w.heap.size (bv a) 30 := ((AtA.newb _ rfl _ _).alloc _).alloc _
    have HB : AtA (((w.alloc (.cells (bv a) 30)).alloc (.cells (bv b) 30)).alloc (.cells (bv zeroM) 30)) (w.heap.size + 1) (bv b) 30 := (AtA.newb _ (by simp) _ _).alloc _
    have HR : AtA (((w.alloc (.cells (bv a) 30)).alloc (.cells (bv b) 30)).alloc (.cells (bv zeroM) 30)) (w.heap.size + 1 + 1) (bv zeroM) 30 := AtA.newb _ (by simp) _ _
    have HF : Gr w (((w.alloc (.cells (bv a) 30)).alloc (.cells (bv b) 30)).alloc (.cells (bv zeroM) 30)) := Gr.alloc (Gr.alloc (Gr.alloc (Gr.refl w) _ _) _ _) _ _
    have nAR : w.heap.size ≠ w.heap.size + 1 + 1 := by omega
    have nBR : w.heap.size + 1 ≠ w.heap.size + 1 + 1 := by omega
    have hPR : w.heap.size ≤ w.heap.size + 1 + 1 := by omega
    revert HA HB HR HF nAR nBR hPR
    rw [bv_zero]
    generalize (((w.alloc (.cells (bv a) 30)).alloc (.cells (bv b) 30)).alloc (.cells _ 30)) = W0
    generalize w.heap.size + 1 + 1 = PR
    generalize w.heap.size + 1 = PB
    generalize hw0 : w.heap.size = PA
    intro HA HB HR HF nAR nBR hPR
    rw [← hw0] at hPR
    rw [← bv_zero] at HR
    refine wp_region_seqW (by kernel_rfl) ?_
    refine seq_do ?_
    refine wp_call0 rfl (by go_simp) ?_
    refine ((k_any) _).mono ?_
    rintro e wk1 ⟨rfl, hk1⟩
    refine ⟨_, rfl, ?_⟩
    have hPA_1 := (HA).gr hk1
    have hPB_1 := (HB).gr hk1
    have hPR_1 := (HR).gr hk1
    have hF_1 := (HF).trans hk1
    refine seq_do ?_
    refine wp_allocB rfl ?_
    intro ws2 hn2 hg2
    have hge2 := (hF_1).below.size
    have hnePA_PN2 : PA ≠ wk1.heap.size := Nat.ne_of_lt (hPA_1).lt
    have hnePB_PN2 : PB ≠ wk1.heap.size := Nat.ne_of_lt (hPB_1).lt
    have hnePR_PN2 : PR ≠ wk1.heap.size := Nat.ne_of_lt (hPR_1).lt
    have hPA_2 := (hPA_1).gr hg2
    have hPB_2 := (hPB_1).gr hg2
    have hPR_2 := (hPR_1).gr hg2
    have hF_2 := (hF_1).trans hg2
    revert hn2 hge2 hnePA_PN2 hnePB_PN2 hnePR_PN2
    generalize wk1.heap.size = PN2
    intro hn2 hge2 hnePA_PN2 hnePB_PN2 hnePR_PN2
    refine seq_do ?_
    refine wp_storeB rfl rfl rfl (hn2) ?_
    intro ws3 hs3 gx3
    have hPA_3 := (hPA_2).grx gx3 hnePA_PN2
    have hPB_3 := (hPB_2).grx gx3 hnePB_PN2
    have hPR_3 := (hPR_2).grx gx3 hnePR_PN2
    have hF_3 := gx3.gr _ (hF_2) hge2
    simp only [Act.put, List.setIfInBounds_toArray, List.set_cons_zero, List.set_cons_succ]
    refine seq_end ?_
    go_upto_region 2 with fail
    refine wp_region_seqq (C := Gr ws3) (Gr.refl _) ?_
    refine q_do (by rfl) ?_
    refine q_loadB rfl rfl (fun w h => (hPB_3).gr h) ?_
    refine q_do (by rfl) ?_
    refine q_call1 rfl rfl (fun w => by go_simp) (grc (fun w => k_six b _ hq w) (rfl)) ?_
    refine q_do (by rfl) ?_
    refine q_move (v := .tuple #[.int .u64 (iv (b.tv &&& (1#64 <<< 6 - 1#64))), .bool true]) rfl rfl ?_
    simp only [Act.put, List.setIfInBounds_toArray, List.set_cons_zero, List.set_cons_succ]
    refine q_do (by rfl) ?_
    refine q_extract (v := .int .u64 (iv (b.tv &&& (1#64 <<< 6 - 1#64)))) rfl rfl rfl ?_
    refine q_do (by rfl) ?_
    refine q_extract (v := .bool true) rfl rfl rfl ?_
    refine q_do (by rfl) ?_
    refine q_assign (v := .int .u64 (iv (b.tv &&& (1#64 <<< 6 - 1#64)))) rfl rfl ?_
    simp only [Act.put, List.setIfInBounds_toArray, List.set_cons_zero, List.set_cons_succ]
    refine q_do (by rfl) ?_
    refine q_assign (v := .bool true) rfl rfl ?_
    simp only [Act.put, List.setIfInBounds_toArray, List.set_cons_zero, List.set_cons_succ]
    intro wq4 hq4
    have hPA_4 := (hPA_3).gr hq4
    have hPB_4 := (hPB_3).gr hq4
    have hPR_4 := (hPR_3).gr hq4
    have hPN2_4 := (hs3).gr hq4
    have hF_4 := (hF_3).trans hq4
    go_upto_region 4 with fail
    rw [show iv (b.tv &&& (1#64 <<< 6 - 1#64)) = (n : Int) by rw [hnn]; rfl]
    refine wp_region_qln (C := Gr wq4) 9 (by kernel_rfl) (by kernel_rfl) (by kernel_rfl) (by kernel_rfl) (by kernel_rfl) (Gr.drew (Gr.refl _)) ?_
    refine q_do (by rfl) ?_
    refine q_fa0 rfl rfl ?_
    refine q_do (by rfl) ?_
    refine q_pT rfl rfl (fun w h => (hPA_4).gr h) rfl rfl ?_
    refine q_do (by rfl) ?_
    refine q_move (v := .int .u64 (n : Int)) rfl rfl ?_
    simp only [Act.put, List.setIfInBounds_toArray, List.set_cons_zero, List.set_cons_succ]
    refine q_do (by rfl) ?_
    refine q_call2 rfl rfl rfl (fun w => by go_simp) (grc (fun w => cv (Tn.sar_any a.tv a.tm n w)) (rfl)) ?_
    refine q_do (by rfl) ?_
    refine q_fa2 rfl rfl ?_
    refine q_do (by rfl) ?_
    refine q_pS rfl rfl (fun w h => (hPA_4).gr h) rfl rfl ?_
    simp only [Act.put, List.setIfInBounds_toArray, List.set_cons_zero, List.set_cons_succ]
    refine q_do (by rfl) ?_
    refine q_move (v := .int .u64 (n : Int)) rfl rfl ?_
    refine q_do (by rfl) ?_
    refine q_call2 rfl rfl rfl (fun w => by go_simp) (grc (cu) (rfl)) ?_
    refine q_do (by rfl) ?_
    refine q_fa0 rfl rfl ?_
    simp only [Act.put, List.setIfInBounds_toArray, List.set_cons_zero, List.set_cons_succ]
    intro wq5 hq5
    have hPA_5 := (hPA_4).gr hq5
    have hPB_5 := (hPB_4).gr hq5
    have hPR_5 := (hPR_4).gr hq5
    have hPN2_5 := (hPN2_4).gr hq5
    have hF_5 := (hF_4).trans hq5
    refine seq_do ?_
    refine wp_stT rfl rfl rfl (hPN2_5) ?_
    intro ws6 hs6 gx6
    have hPA_6 := (hPA_5).grx gx6 hnePA_PN2
    have hPB_6 := (hPB_5).grx gx6 hnePB_PN2
    have hPR_6 := (hPR_5).grx gx6 hnePR_PN2
    have hF_6 := gx6.gr _ (hF_5) hge2
    refine seq_do ?_
    refine wp_fa2 rfl rfl ?_
    refine seq_do ?_
    refine wp_stS rfl rfl rfl (hs6) ?_
    intro ws7 hs7 gx7
    have hPA_7 := (hPA_6).grx gx7 hnePA_PN2
    have hPB_7 := (hPB_6).grx gx7 hnePB_PN2
    have hPR_7 := (hPR_6).grx gx7 hnePR_PN2
    have hF_7 := gx7.gr _ (hF_6) hge2
    simp only [Act.put, List.setIfInBounds_toArray, List.set_cons_zero, List.set_cons_succ]
    refine seq_end ?_
    go_upto_region 5 with fail
    refine wp_region_seqW (by kernel_rfl) ?_
    refine seq_do ?_
    refine wp_loadB rfl rfl (hs7) ?_
    refine seq_do ?_
    refine wp_call1 rfl rfl (by go_simp) ?_
    refine ((csy) _).mono ?_
    rintro e wk8 ⟨rfl, hk8⟩
    refine ⟨_, rfl, ?_⟩
    have hPA_8 := (hPA_7).gr hk8
    have hPB_8 := (hPB_7).gr hk8
    have hPR_8 := (hPR_7).gr hk8
    have hPN2_8 := (hs7).gr hk8
    have hF_8 := (hF_7).trans hk8
    refine seq_do ?_
    refine wp_storeB rfl rfl rfl (hPR_8) ?_
    intro ws9 hs9 gx9
    have hPA_9 := (hPA_8).grx gx9 nAR
    have hPB_9 := (hPB_8).grx gx9 nBR
    have hPN2_9 := (hPN2_8).grx gx9 (Ne.symm hnePR_PN2)
    have hF_9 := gx9.gr _ (hF_8) hPR
    simp only [Act.put, List.setIfInBounds_toArray, List.set_cons_zero, List.set_cons_succ]
    refine seq_end ?_
    obtain ⟨r0, r1, r2, r3, r4, r5, r6, r7, r8, r9⟩ := cells_bv (hs9)
    go_wp2
    refine bodyPost_ret (by simp [results, Tryz.results134, go_sem, r0, r1, r2, r3, r4, r5, r6, r7, r8, r9]; try rfl) rfl ?_
    exact ⟨rfl, hF_9⟩
  | false =>
    have hk := has_any (x.sshiftRight (y &&& (1#64 <<< 6 - 1#64)).toNat)
    have csy := fun w => k_sync anyM w good_any
    generalize hrs : syncM anyM = RS at csy
    refine deeds_of good_any hk (fun _ pb => absurd hq (by rw [pb]; decide)) (fun w => ?_)
    rw [hrs]
    go_enter Tryz.func134, Tryz.ntmps134
    go_upto_region 1 with fail
    have HA : AtA (((w.alloc (.cells (bv a) 30)).alloc (.cells (bv b) 30)).alloc (.cells (bv zeroM) 30)) w.heap.size (bv a) 30 := ((AtA.newb _ rfl _ _).alloc _).alloc _
    have HB : AtA (((w.alloc (.cells (bv a) 30)).alloc (.cells (bv b) 30)).alloc (.cells (bv zeroM) 30)) (w.heap.size + 1) (bv b) 30 := (AtA.newb _ (by simp) _ _).alloc _
    have HR : AtA (((w.alloc (.cells (bv a) 30)).alloc (.cells (bv b) 30)).alloc (.cells (bv zeroM) 30)) (w.heap.size + 1 + 1) (bv zeroM) 30 := AtA.newb _ (by simp) _ _
    have HF : Gr w (((w.alloc (.cells (bv a) 30)).alloc (.cells (bv b) 30)).alloc (.cells (bv zeroM) 30)) := Gr.alloc (Gr.alloc (Gr.alloc (Gr.refl w) _ _) _ _) _ _
    have nAR : w.heap.size ≠ w.heap.size + 1 + 1 := by omega
    have nBR : w.heap.size + 1 ≠ w.heap.size + 1 + 1 := by omega
    have hPR : w.heap.size ≤ w.heap.size + 1 + 1 := by omega
    revert HA HB HR HF nAR nBR hPR
    rw [bv_zero]
    generalize (((w.alloc (.cells (bv a) 30)).alloc (.cells (bv b) 30)).alloc (.cells _ 30)) = W0
    generalize w.heap.size + 1 + 1 = PR
    generalize w.heap.size + 1 = PB
    generalize hw0 : w.heap.size = PA
    intro HA HB HR HF nAR nBR hPR
    rw [← hw0] at hPR
    rw [← bv_zero] at HR
    refine wp_region_seqW (by kernel_rfl) ?_
    refine seq_do ?_
    refine wp_call0 rfl (by go_simp) ?_
    refine ((k_any) _).mono ?_
    rintro e wk1 ⟨rfl, hk1⟩
    refine ⟨_, rfl, ?_⟩
    have hPA_1 := (HA).gr hk1
    have hPB_1 := (HB).gr hk1
    have hPR_1 := (HR).gr hk1
    have hF_1 := (HF).trans hk1
    refine seq_do ?_
    refine wp_allocB rfl ?_
    intro ws2 hn2 hg2
    have hge2 := (hF_1).below.size
    have hnePA_PN2 : PA ≠ wk1.heap.size := Nat.ne_of_lt (hPA_1).lt
    have hnePB_PN2 : PB ≠ wk1.heap.size := Nat.ne_of_lt (hPB_1).lt
    have hnePR_PN2 : PR ≠ wk1.heap.size := Nat.ne_of_lt (hPR_1).lt
    have hPA_2 := (hPA_1).gr hg2
    have hPB_2 := (hPB_1).gr hg2
    have hPR_2 := (hPR_1).gr hg2
    have hF_2 := (hF_1).trans hg2
    revert hn2 hge2 hnePA_PN2 hnePB_PN2 hnePR_PN2
    generalize wk1.heap.size = PN2
    intro hn2 hge2 hnePA_PN2 hnePB_PN2 hnePR_PN2
    refine seq_do ?_
    refine wp_storeB rfl rfl rfl (hn2) ?_
    intro ws3 hs3 gx3
    have hPA_3 := (hPA_2).grx gx3 hnePA_PN2
    have hPB_3 := (hPB_2).grx gx3 hnePB_PN2
    have hPR_3 := (hPR_2).grx gx3 hnePR_PN2
    have hF_3 := gx3.gr _ (hF_2) hge2
    simp only [Act.put, List.setIfInBounds_toArray, List.set_cons_zero, List.set_cons_succ]
    refine seq_end ?_
    go_upto_region 2 with fail
    refine wp_region_seqq (C := Gr ws3) (Gr.refl _) ?_
    refine q_do (by rfl) ?_
    refine q_loadB rfl rfl (fun w h => (hPB_3).gr h) ?_
    refine q_do (by rfl) ?_
    refine q_call1 rfl rfl (fun w => by go_simp) (grc (fun w => k_six b _ hq w) (rfl)) ?_
    refine q_do (by rfl) ?_
    refine q_move (v := .tuple #[.int .u64 (iv (b.tv &&& (1#64 <<< 6 - 1#64))), .bool false]) rfl rfl ?_
    simp only [Act.put, List.setIfInBounds_toArray, List.set_cons_zero, List.set_cons_succ]
    refine q_do (by rfl) ?_
    refine q_extract (v := .int .u64 (iv (b.tv &&& (1#64 <<< 6 - 1#64)))) rfl rfl rfl ?_
    refine q_do (by rfl) ?_
    refine q_extract (v := .bool false) rfl rfl rfl ?_
    refine q_do (by rfl) ?_
    refine q_assign (v := .int .u64 (iv (b.tv &&& (1#64 <<< 6 - 1#64)))) rfl rfl ?_
    simp only [Act.put, List.setIfInBounds_toArray, List.set_cons_zero, List.set_cons_succ]
    refine q_do (by rfl) ?_
    refine q_assign (v := .bool false) rfl rfl ?_
    simp only [Act.put, List.setIfInBounds_toArray, List.set_cons_zero, List.set_cons_succ]
    intro wq4 hq4
    have hPA_4 := (hPA_3).gr hq4
    have hPB_4 := (hPB_3).gr hq4
    have hPR_4 := (hPR_3).gr hq4
    have hPN2_4 := (hs3).gr hq4
    have hF_4 := (hF_3).trans hq4
    go_upto_region 5 with fail
    refine wp_region_seqW (by kernel_rfl) ?_
    refine seq_do ?_
    refine wp_loadB rfl rfl (hPN2_4) ?_
    refine seq_do ?_
    refine wp_call1 rfl rfl (by go_simp) ?_
    refine ((csy) _).mono ?_
    rintro e wk5 ⟨rfl, hk5⟩
    refine ⟨_, rfl, ?_⟩
    have hPA_5 := (hPA_4).gr hk5
    have hPB_5 := (hPB_4).gr hk5
    have hPR_5 := (hPR_4).gr hk5
    have hPN2_5 := (hPN2_4).gr hk5
    have hF_5 := (hF_4).trans hk5
    refine seq_do ?_
    refine wp_storeB rfl rfl rfl (hPR_5) ?_
    intro ws6 hs6 gx6
    have hPA_6 := (hPA_5).grx gx6 nAR
    have hPB_6 := (hPB_5).grx gx6 nBR
    have hPN2_6 := (hPN2_5).grx gx6 (Ne.symm hnePR_PN2)
    have hF_6 := gx6.gr _ (hF_5) hPR
    simp only [Act.put, List.setIfInBounds_toArray, List.set_cons_zero, List.set_cons_succ]
    refine seq_end ?_
    obtain ⟨r0, r1, r2, r3, r4, r5, r6, r7, r8, r9⟩ := cells_bv (hs6)
    go_wp2
    refine bodyPost_ret (by simp [results, Tryz.results134, go_sem, r0, r1, r2, r3, r4, r5, r6, r7, r8, r9]; try rfl) rfl ?_
    exact ⟨rfl, hF_6⟩
set_option maxHeartbeats 4000000 in
theorem d_neg {a b : Bd} {x y : BitVec 64} (ga : Good a) (ka : Has a x) : Deed 135 a b x y (0#64 - x) True := by
  obtain ⟨c, h1, h2, h3, hc⟩ := d_sub (good_const 0#64) ga (has_const 0#64) ka
  refine ⟨c, h1, h2, fun _ ea _ => h3 trivial rfl ea, fun w => ?_⟩
  go_enter Tryz.func135, Tryz.ntmps135
  go_upto_region 1 with fail
  have HA : AtA (((w.alloc (.cells (bv a) 30)).alloc (.cells (bv b) 30)).alloc (.cells (bv zeroM) 30)) w.heap.size (bv a) 30 := ((AtA.newb _ rfl _ _).alloc _).alloc _
  have HB : AtA (((w.alloc (.cells (bv a) 30)).alloc (.cells (bv b) 30)).alloc (.cells (bv zeroM) 30)) (w.heap.size + 1) (bv b) 30 := (AtA.newb _ (by simp) _ _).alloc _
  have HR : AtA (((w.alloc (.cells (bv a) 30)).alloc (.cells (bv b) 30)).alloc (.cells (bv zeroM) 30)) (w.heap.size + 1 + 1) (bv zeroM) 30 := AtA.newb _ (by simp) _ _
  have HF : Gr w (((w.alloc (.cells (bv a) 30)).alloc (.cells (bv b) 30)).alloc (.cells (bv zeroM) 30)) := Gr.alloc (Gr.alloc (Gr.alloc (Gr.refl w) _ _) _ _) _ _
  have nAR : w.heap.size ≠ w.heap.size + 1 + 1 := by omega
  have nBR : w.heap.size + 1 ≠ w.heap.size + 1 + 1 := by omega
  have hPR : w.heap.size ≤ w.heap.size + 1 + 1 := by omega
  revert HA HB HR HF nAR nBR hPR
  rw [bv_zero]
  generalize (((w.alloc (.cells (bv a) 30)).alloc (.cells (bv b) 30)).alloc (.cells _ 30)) = W0
  generalize w.heap.size + 1 + 1 = PR
  generalize w.heap.size + 1 = PB
  generalize hw0 : w.heap.size = PA
  intro HA HB HR HF nAR nBR hPR
  rw [← hw0] at hPR
  rw [← bv_zero] at HR
  refine wp_region_qln (C := Gr W0) 3 (by kernel_rfl) (by kernel_rfl) (by kernel_rfl) (by kernel_rfl) (by kernel_rfl) (Gr.drew (Gr.refl _)) ?_
  refine q_do (by rfl) ?_
  refine q_call1 rfl rfl (fun w => by go_simp) (grc (fun w => k_const 0#64 w) (rfl)) ?_
  refine q_do (by rfl) ?_
  refine q_loadB rfl rfl (fun w h => (HA).gr h) ?_
  refine q_do (by rfl) ?_
  refine q_call2 rfl rfl rfl (fun w => by go_simp) (grc (hc) (rfl)) ?_
  simp only [Act.put, List.setIfInBounds_toArray, List.set_cons_zero, List.set_cons_succ]
  intro wq1 hq1
  have hPA_1 := (HA).gr hq1
  have hPB_1 := (HB).gr hq1
  have hPR_1 := (HR).gr hq1
  have hF_1 := (HF).trans hq1
  refine seq_do ?_
  refine wp_storeB rfl rfl rfl (hPR_1) ?_
  intro ws2 hs2 gx2
  have hPA_2 := (hPA_1).grx gx2 nAR
  have hPB_2 := (hPB_1).grx gx2 nBR
  have hF_2 := gx2.gr _ (hF_1) hPR
  simp only [Act.put, List.setIfInBounds_toArray, List.set_cons_zero, List.set_cons_succ]
  refine seq_end ?_
  obtain ⟨r0, r1, r2, r3, r4, r5, r6, r7, r8, r9⟩ := cells_bv (hs2)
  go_wp2
  refine bodyPost_ret (by simp [results, Tryz.results135, go_sem, r0, r1, r2, r3, r4, r5, r6, r7, r8, r9]; try rfl) rfl ?_
  exact ⟨rfl, hF_2⟩
set_option maxHeartbeats 4000000 in
theorem d_mov {a b : Bd} {x y : BitVec 64} (gb : Good b) (kb : Has b y) : Deed 136 a b x y y True := by
  refine ⟨b, gb, kb, fun _ _ eb => eb, fun w => ?_⟩
  go_enter Tryz.func136, Tryz.ntmps136
  go_upto_region 1 with fail
  have HA : AtA (((w.alloc (.cells (bv a) 30)).alloc (.cells (bv b) 30)).alloc (.cells (bv zeroM) 30)) w.heap.size (bv a) 30 := ((AtA.newb _ rfl _ _).alloc _).alloc _
  have HB : AtA (((w.alloc (.cells (bv a) 30)).alloc (.cells (bv b) 30)).alloc (.cells (bv zeroM) 30)) (w.heap.size + 1) (bv b) 30 := (AtA.newb _ (by simp) _ _).alloc _
  have HR : AtA (((w.alloc (.cells (bv a) 30)).alloc (.cells (bv b) 30)).alloc (.cells (bv zeroM) 30)) (w.heap.size + 1 + 1) (bv zeroM) 30 := AtA.newb _ (by simp) _ _
  have HF : Gr w (((w.alloc (.cells (bv a) 30)).alloc (.cells (bv b) 30)).alloc (.cells (bv zeroM) 30)) := Gr.alloc (Gr.alloc (Gr.alloc (Gr.refl w) _ _) _ _) _ _
  have nAR : w.heap.size ≠ w.heap.size + 1 + 1 := by omega
  have nBR : w.heap.size + 1 ≠ w.heap.size + 1 + 1 := by omega
  have hPR : w.heap.size ≤ w.heap.size + 1 + 1 := by omega
  revert HA HB HR HF nAR nBR hPR
  rw [bv_zero]
  generalize (((w.alloc (.cells (bv a) 30)).alloc (.cells (bv b) 30)).alloc (.cells _ 30)) = W0
  generalize w.heap.size + 1 + 1 = PR
  generalize w.heap.size + 1 = PB
  generalize hw0 : w.heap.size = PA
  intro HA HB HR HF nAR nBR hPR
  rw [← hw0] at hPR
  rw [← bv_zero] at HR
  refine wp_region_seqW (by kernel_rfl) ?_
  refine seq_do ?_
  refine wp_loadB rfl rfl (HB) ?_
  refine seq_do ?_
  refine wp_storeB rfl rfl rfl (HR) ?_
  intro ws1 hs1 gx1
  have hPA_1 := (HA).grx gx1 nAR
  have hPB_1 := (HB).grx gx1 nBR
  have hF_1 := gx1.gr _ (HF) hPR
  simp only [Act.put, List.setIfInBounds_toArray, List.set_cons_zero, List.set_cons_succ]
  refine seq_end ?_
  obtain ⟨r0, r1, r2, r3, r4, r5, r6, r7, r8, r9⟩ := cells_bv (hs1)
  go_wp2
  refine bodyPost_ret (by simp [results, Tryz.results136, go_sem, r0, r1, r2, r3, r4, r5, r6, r7, r8, r9]; try rfl) rfl ?_
  exact ⟨rfl, hF_1⟩
end Go.Proofs.YtekenpgagfmgkaaGreat
end
section
namespace Go.Proofs.YtekenpgagfmgkaaGreat
open Go.ChangeShapes Go.WideShapes Go.ChangeAt Go.RowKit
open Tn (iv)
set_option linter.unusedVariables false
set_option linter.unusedSimpArgs false
set_option maxRecDepth 20000

theorem o_low {v m : BitVec 64} (o : Tn.Tn.Ok v m) (c : BitVec 64) : Tn.Tn.Ok (v &&& c) (m &&& c) := by
  intro i hi h
  rw [BitVec.getLsbD_and] at h ⊢
  simp only [Bool.and_eq_true] at h
  rw [o i hi h.1]
  rfl
theorem sg_em (z : Int) : sg (z % 4294967296) = sg z := by
  unfold sg
  omega
set_option maxHeartbeats 4000000 in
theorem k_low8 {b : Bd} {x : BitVec 64} (gb : Good b) (kb : Has b x) : ∃ c : Bd, Good c ∧ Has c (x &&& (1#64 <<< 8 - 1#64)) ∧ (b = constM x → c = constM (x &&& (1#64 <<< 8 - 1#64))) ∧ ∀ w, Calls Tryz.prog 27 #[.agg (bv b), .int .u64 8] w fun e w' => e = .returned (.agg (bv c)) ∧ Gr w w' := by
  have hz := has_any (x &&& (1#64 <<< 8 - 1#64))
  have hk : Has ({ anyM with tv := b.tv &&& (1#64 <<< 8 - 1#64), tm := b.tm &&& (1#64 <<< 8 - 1#64) } : Bd) (x &&& (1#64 <<< 8 - 1#64)) := ⟨t_of (o_low gb.ok _) (Tn.low_has kb.th _), hz.u0, hz.u1, hz.s0, hz.s1, hz.w0, hz.w1, hz.v0, hz.v1⟩
  have hg : Good ({ anyM with tv := b.tv &&& (1#64 <<< 8 - 1#64), tm := b.tm &&& (1#64 <<< 8 - 1#64) } : Bd) := good_by (o_low gb.ok _) hk good_any.u0 good_any.u2 good_any.s0 good_any.s2 good_any.w0 good_any.w2 good_any.v0 good_any.v2
  have csy := fun w => k_sync ({ anyM with tv := b.tv &&& (1#64 <<< 8 - 1#64), tm := b.tm &&& (1#64 <<< 8 - 1#64) } : Bd) w hg
  have hs := sync_keep hg hk
  have hp : b = constM x → syncM ({ anyM with tv := b.tv &&& (1#64 <<< 8 - 1#64), tm := b.tm &&& (1#64 <<< 8 - 1#64) } : Bd) = constM (x &&& (1#64 <<< 8 - 1#64)) := fun e => sync_pin hg hk (.inl (by show b.tm &&& (1#64 <<< 8 - 1#64) = 0#64; rw [e]; exact and_z _))
  generalize syncM ({ anyM with tv := b.tv &&& (1#64 <<< 8 - 1#64), tm := b.tm &&& (1#64 <<< 8 - 1#64) } : Bd) = RS at csy hs hp
  refine ⟨RS, hs.2.2, hs.1, hp, fun w => ?_⟩
  go_enter Tryz.func27, Tryz.ntmps27
  go_upto_region 3 with fail
  have HB : AtA ((w.alloc (.cells (bv b) 30)).alloc (.cells (bv zeroM) 30)) w.heap.size (bv b) 30 := (AtA.newb _ rfl _ _).alloc _
  have HR : AtA ((w.alloc (.cells (bv b) 30)).alloc (.cells (bv zeroM) 30)) (w.heap.size + 1) (bv zeroM) 30 := AtA.newb _ (by simp) _ _
  have HF : Gr w ((w.alloc (.cells (bv b) 30)).alloc (.cells (bv zeroM) 30)) := Gr.alloc (Gr.alloc (Gr.refl w) _ _) _ _
  have nBR : w.heap.size ≠ w.heap.size + 1 := by omega
  have hPR : w.heap.size ≤ w.heap.size + 1 := by omega
  revert HB HR HF nBR hPR
  rw [bv_zero]
  generalize ((w.alloc (.cells (bv b) 30)).alloc (.cells _ 30)) = W0
  generalize w.heap.size + 1 = PR
  generalize hw0 : w.heap.size = PB
  intro HB HR HF nBR hPR
  rw [← hw0] at hPR
  rw [← bv_zero] at HR
  refine wp_region_seqq (C := Gr W0) (Gr.refl _) ?_
  refine q_do (by rfl) ?_
  refine q_loadB rfl rfl (fun w h => (HB).gr h) ?_
  refine q_do (by rfl) ?_
  refine q_call1 rfl rfl (fun w => by go_simp) (grc (fun w => k_none b w) (by rw [nnB_of gb])) ?_
  refine q_do (by rfl) ?_
  refine q_assign (v := .bool false) rfl rfl ?_
  simp only [Act.put, List.setIfInBounds_toArray, List.set_cons_zero, List.set_cons_succ]
  intro wq1 hq1
  have hPB_1 := (HB).gr hq1
  have hPR_1 := (HR).gr hq1
  have hF_1 := (HF).trans hq1
  go_upto_region 5 with fail
  refine wp_region_seqW (by kernel_rfl) ?_
  refine seq_do ?_
  refine wp_call0 rfl (by go_simp) ?_
  refine ((k_any) _).mono ?_
  rintro e wk2 ⟨rfl, hk2⟩
  refine ⟨_, rfl, ?_⟩
  have hPB_2 := (hPB_1).gr hk2
  have hPR_2 := (hPR_1).gr hk2
  have hF_2 := (hF_1).trans hk2
  refine seq_do ?_
  refine wp_allocB rfl ?_
  intro ws3 hn3 hg3
  have hge3 := (hF_2).below.size
  have hnePB_PN3 : PB ≠ wk2.heap.size := Nat.ne_of_lt (hPB_2).lt
  have hnePR_PN3 : PR ≠ wk2.heap.size := Nat.ne_of_lt (hPR_2).lt
  have hPB_3 := (hPB_2).gr hg3
  have hPR_3 := (hPR_2).gr hg3
  have hF_3 := (hF_2).trans hg3
  revert hn3 hge3 hnePB_PN3 hnePR_PN3
  generalize wk2.heap.size = PN3
  intro hn3 hge3 hnePB_PN3 hnePR_PN3
  refine seq_do ?_
  refine wp_storeB rfl rfl rfl (hn3) ?_
  intro ws4 hs4 gx4
  have hPB_4 := (hPB_3).grx gx4 hnePB_PN3
  have hPR_4 := (hPR_3).grx gx4 hnePR_PN3
  have hF_4 := gx4.gr _ (hF_3) hge3
  simp only [Act.put, List.setIfInBounds_toArray, List.set_cons_zero, List.set_cons_succ]
  refine seq_end ?_
  go_upto_region 6 with fail
  refine wp_region_seqW (by kernel_rfl) ?_
  refine seq_do ?_
  refine wp_fa0 rfl rfl ?_
  refine seq_do ?_
  refine wp_pT rfl rfl (hPB_4) rfl rfl ?_
  refine seq_do ?_
  refine wp_move (v := .int .u64 8) rfl rfl ?_
  simp only [Act.put, List.setIfInBounds_toArray, List.set_cons_zero, List.set_cons_succ]
  refine seq_do ?_
  refine wp_call2 rfl rfl rfl (by go_simp) ?_
  refine ((fun w => Go.Proofs.YtekenpgagfmgkaaGreat.cv (Tn.low_any b.tv b.tm 8 w)) _).mono ?_
  rintro e wk5 ⟨rfl, hk5⟩
  refine ⟨_, rfl, ?_⟩
  have hPB_5 := (hPB_4).gr hk5
  have hPR_5 := (hPR_4).gr hk5
  have hPN3_5 := (hs4).gr hk5
  have hF_5 := (hF_4).trans hk5
  refine seq_do ?_
  refine wp_fa0 rfl rfl ?_
  refine seq_do ?_
  refine wp_stT rfl rfl rfl (hPN3_5) ?_
  intro ws6 hs6 gx6
  have hPB_6 := (hPB_5).grx gx6 hnePB_PN3
  have hPR_6 := (hPR_5).grx gx6 hnePR_PN3
  have hF_6 := gx6.gr _ (hF_5) hge3
  simp only [Act.put, List.setIfInBounds_toArray, List.set_cons_zero, List.set_cons_succ]
  refine seq_end ?_
  go_upto_region 9 with fail
  refine wp_region_seqW (by kernel_rfl) ?_
  refine seq_do ?_
  refine wp_loadB rfl rfl (hs6) ?_
  refine seq_do ?_
  refine wp_call1 rfl rfl (by go_simp) ?_
  refine ((csy) _).mono ?_
  rintro e wk7 ⟨rfl, hk7⟩
  refine ⟨_, rfl, ?_⟩
  have hPB_7 := (hPB_6).gr hk7
  have hPR_7 := (hPR_6).gr hk7
  have hPN3_7 := (hs6).gr hk7
  have hF_7 := (hF_6).trans hk7
  refine seq_do ?_
  refine wp_storeB rfl rfl rfl (hPR_7) ?_
  intro ws8 hs8 gx8
  have hPB_8 := (hPB_7).grx gx8 nBR
  have hPN3_8 := (hPN3_7).grx gx8 (Ne.symm hnePR_PN3)
  have hF_8 := gx8.gr _ (hF_7) hPR
  simp only [Act.put, List.setIfInBounds_toArray, List.set_cons_zero, List.set_cons_succ]
  refine seq_end ?_
  obtain ⟨r0, r1, r2, r3, r4, r5, r6, r7, r8, r9⟩ := cells_bv (hs8)
  go_wp2
  refine bodyPost_ret (by simp [results, Tryz.results27, go_sem, r0, r1, r2, r3, r4, r5, r6, r7, r8, r9]; try rfl) rfl ?_
  exact ⟨rfl, hF_8⟩
set_option maxHeartbeats 4000000 in
theorem k_low16 {b : Bd} {x : BitVec 64} (gb : Good b) (kb : Has b x) : ∃ c : Bd, Good c ∧ Has c (x &&& (1#64 <<< 16 - 1#64)) ∧ (b = constM x → c = constM (x &&& (1#64 <<< 16 - 1#64))) ∧ ∀ w, Calls Tryz.prog 27 #[.agg (bv b), .int .u64 16] w fun e w' => e = .returned (.agg (bv c)) ∧ Gr w w' := by
  have hz := has_any (x &&& (1#64 <<< 16 - 1#64))
  have hk : Has ({ anyM with tv := b.tv &&& (1#64 <<< 16 - 1#64), tm := b.tm &&& (1#64 <<< 16 - 1#64) } : Bd) (x &&& (1#64 <<< 16 - 1#64)) := ⟨t_of (o_low gb.ok _) (Tn.low_has kb.th _), hz.u0, hz.u1, hz.s0, hz.s1, hz.w0, hz.w1, hz.v0, hz.v1⟩
  have hg : Good ({ anyM with tv := b.tv &&& (1#64 <<< 16 - 1#64), tm := b.tm &&& (1#64 <<< 16 - 1#64) } : Bd) := good_by (o_low gb.ok _) hk good_any.u0 good_any.u2 good_any.s0 good_any.s2 good_any.w0 good_any.w2 good_any.v0 good_any.v2
  have csy := fun w => k_sync ({ anyM with tv := b.tv &&& (1#64 <<< 16 - 1#64), tm := b.tm &&& (1#64 <<< 16 - 1#64) } : Bd) w hg
  have hs := sync_keep hg hk
  have hp : b = constM x → syncM ({ anyM with tv := b.tv &&& (1#64 <<< 16 - 1#64), tm := b.tm &&& (1#64 <<< 16 - 1#64) } : Bd) = constM (x &&& (1#64 <<< 16 - 1#64)) := fun e => sync_pin hg hk (.inl (by show b.tm &&& (1#64 <<< 16 - 1#64) = 0#64; rw [e]; exact and_z _))
  generalize syncM ({ anyM with tv := b.tv &&& (1#64 <<< 16 - 1#64), tm := b.tm &&& (1#64 <<< 16 - 1#64) } : Bd) = RS at csy hs hp
  refine ⟨RS, hs.2.2, hs.1, hp, fun w => ?_⟩
  go_enter Tryz.func27, Tryz.ntmps27
  go_upto_region 3 with fail
  have HB : AtA ((w.alloc (.cells (bv b) 30)).alloc (.cells (bv zeroM) 30)) w.heap.size (bv b) 30 := (AtA.newb _ rfl _ _).alloc _
  have HR : AtA ((w.alloc (.cells (bv b) 30)).alloc (.cells (bv zeroM) 30)) (w.heap.size + 1) (bv zeroM) 30 := AtA.newb _ (by simp) _ _
  have HF : Gr w ((w.alloc (.cells (bv b) 30)).alloc (.cells (bv zeroM) 30)) := Gr.alloc (Gr.alloc (Gr.refl w) _ _) _ _
  have nBR : w.heap.size ≠ w.heap.size + 1 := by omega
  have hPR : w.heap.size ≤ w.heap.size + 1 := by omega
  revert HB HR HF nBR hPR
  rw [bv_zero]
  generalize ((w.alloc (.cells (bv b) 30)).alloc (.cells _ 30)) = W0
  generalize w.heap.size + 1 = PR
  generalize hw0 : w.heap.size = PB
  intro HB HR HF nBR hPR
  rw [← hw0] at hPR
  rw [← bv_zero] at HR
  refine wp_region_seqq (C := Gr W0) (Gr.refl _) ?_
  refine q_do (by rfl) ?_
  refine q_loadB rfl rfl (fun w h => (HB).gr h) ?_
  refine q_do (by rfl) ?_
  refine q_call1 rfl rfl (fun w => by go_simp) (grc (fun w => k_none b w) (by rw [nnB_of gb])) ?_
  refine q_do (by rfl) ?_
  refine q_assign (v := .bool false) rfl rfl ?_
  simp only [Act.put, List.setIfInBounds_toArray, List.set_cons_zero, List.set_cons_succ]
  intro wq1 hq1
  have hPB_1 := (HB).gr hq1
  have hPR_1 := (HR).gr hq1
  have hF_1 := (HF).trans hq1
  go_upto_region 5 with fail
  refine wp_region_seqW (by kernel_rfl) ?_
  refine seq_do ?_
  refine wp_call0 rfl (by go_simp) ?_
  refine ((k_any) _).mono ?_
  rintro e wk2 ⟨rfl, hk2⟩
  refine ⟨_, rfl, ?_⟩
  have hPB_2 := (hPB_1).gr hk2
  have hPR_2 := (hPR_1).gr hk2
  have hF_2 := (hF_1).trans hk2
  refine seq_do ?_
  refine wp_allocB rfl ?_
  intro ws3 hn3 hg3
  have hge3 := (hF_2).below.size
  have hnePB_PN3 : PB ≠ wk2.heap.size := Nat.ne_of_lt (hPB_2).lt
  have hnePR_PN3 : PR ≠ wk2.heap.size := Nat.ne_of_lt (hPR_2).lt
  have hPB_3 := (hPB_2).gr hg3
  have hPR_3 := (hPR_2).gr hg3
  have hF_3 := (hF_2).trans hg3
  revert hn3 hge3 hnePB_PN3 hnePR_PN3
  generalize wk2.heap.size = PN3
  intro hn3 hge3 hnePB_PN3 hnePR_PN3
  refine seq_do ?_
  refine wp_storeB rfl rfl rfl (hn3) ?_
  intro ws4 hs4 gx4
  have hPB_4 := (hPB_3).grx gx4 hnePB_PN3
  have hPR_4 := (hPR_3).grx gx4 hnePR_PN3
  have hF_4 := gx4.gr _ (hF_3) hge3
  simp only [Act.put, List.setIfInBounds_toArray, List.set_cons_zero, List.set_cons_succ]
  refine seq_end ?_
  go_upto_region 6 with fail
  refine wp_region_seqW (by kernel_rfl) ?_
  refine seq_do ?_
  refine wp_fa0 rfl rfl ?_
  refine seq_do ?_
  refine wp_pT rfl rfl (hPB_4) rfl rfl ?_
  refine seq_do ?_
  refine wp_move (v := .int .u64 16) rfl rfl ?_
  simp only [Act.put, List.setIfInBounds_toArray, List.set_cons_zero, List.set_cons_succ]
  refine seq_do ?_
  refine wp_call2 rfl rfl rfl (by go_simp) ?_
  refine ((fun w => Go.Proofs.YtekenpgagfmgkaaGreat.cv (Tn.low_any b.tv b.tm 16 w)) _).mono ?_
  rintro e wk5 ⟨rfl, hk5⟩
  refine ⟨_, rfl, ?_⟩
  have hPB_5 := (hPB_4).gr hk5
  have hPR_5 := (hPR_4).gr hk5
  have hPN3_5 := (hs4).gr hk5
  have hF_5 := (hF_4).trans hk5
  refine seq_do ?_
  refine wp_fa0 rfl rfl ?_
  refine seq_do ?_
  refine wp_stT rfl rfl rfl (hPN3_5) ?_
  intro ws6 hs6 gx6
  have hPB_6 := (hPB_5).grx gx6 hnePB_PN3
  have hPR_6 := (hPR_5).grx gx6 hnePR_PN3
  have hF_6 := gx6.gr _ (hF_5) hge3
  simp only [Act.put, List.setIfInBounds_toArray, List.set_cons_zero, List.set_cons_succ]
  refine seq_end ?_
  go_upto_region 9 with fail
  refine wp_region_seqW (by kernel_rfl) ?_
  refine seq_do ?_
  refine wp_loadB rfl rfl (hs6) ?_
  refine seq_do ?_
  refine wp_call1 rfl rfl (by go_simp) ?_
  refine ((csy) _).mono ?_
  rintro e wk7 ⟨rfl, hk7⟩
  refine ⟨_, rfl, ?_⟩
  have hPB_7 := (hPB_6).gr hk7
  have hPR_7 := (hPR_6).gr hk7
  have hPN3_7 := (hs6).gr hk7
  have hF_7 := (hF_6).trans hk7
  refine seq_do ?_
  refine wp_storeB rfl rfl rfl (hPR_7) ?_
  intro ws8 hs8 gx8
  have hPB_8 := (hPB_7).grx gx8 nBR
  have hPN3_8 := (hPN3_7).grx gx8 (Ne.symm hnePR_PN3)
  have hF_8 := gx8.gr _ (hF_7) hPR
  simp only [Act.put, List.setIfInBounds_toArray, List.set_cons_zero, List.set_cons_succ]
  refine seq_end ?_
  obtain ⟨r0, r1, r2, r3, r4, r5, r6, r7, r8, r9⟩ := cells_bv (hs8)
  go_wp2
  refine bodyPost_ret (by simp [results, Tryz.results27, go_sem, r0, r1, r2, r3, r4, r5, r6, r7, r8, r9]; try rfl) rfl ?_
  exact ⟨rfl, hF_8⟩
set_option maxHeartbeats 4000000 in
theorem k_low32 {b : Bd} {x : BitVec 64} (gb : Good b) (kb : Has b x) : ∃ c : Bd, Good c ∧ Has c (x &&& (1#64 <<< 32 - 1#64)) ∧ (b = constM x → c = constM (x &&& (1#64 <<< 32 - 1#64))) ∧ ∀ w, Calls Tryz.prog 27 #[.agg (bv b), .int .u64 32] w fun e w' => e = .returned (.agg (bv c)) ∧ Gr w w' := by
  have hz := has_any (x &&& (1#64 <<< 32 - 1#64))
  have e32 : iv (x &&& (1#64 <<< 32 - 1#64)) = iv x % 4294967296 := low_mod x
  have hk : Has ({ { { { anyM with tv := b.tv &&& (1#64 <<< 32 - 1#64), tm := b.tm &&& (1#64 <<< 32 - 1#64) } with ul := b.wl, uh := b.wh } with wl := b.wl, wh := b.wh } with vl := b.vl, vh := b.vh } : Bd) (x &&& (1#64 <<< 32 - 1#64)) := ⟨t_of (o_low gb.ok _) (Tn.low_has kb.th _), by rw [e32]; exact kb.w0, by rw [e32]; exact kb.w1, hz.s0, hz.s1, by rw [e32, Int.emod_emod]; exact kb.w0, by rw [e32, Int.emod_emod]; exact kb.w1, by rw [e32, sg_em]; exact kb.v0, by rw [e32, sg_em]; exact kb.v1⟩
  have hg : Good ({ { { { anyM with tv := b.tv &&& (1#64 <<< 32 - 1#64), tm := b.tm &&& (1#64 <<< 32 - 1#64) } with ul := b.wl, uh := b.wh } with wl := b.wl, wh := b.wh } with vl := b.vl, vh := b.vh } : Bd) := good_by (o_low gb.ok _) hk gb.w0 (Int.le_trans gb.w2 (by decide)) good_any.s0 good_any.s2 gb.w0 gb.w2 gb.v0 gb.v2
  have csy := fun w => k_sync ({ { { { anyM with tv := b.tv &&& (1#64 <<< 32 - 1#64), tm := b.tm &&& (1#64 <<< 32 - 1#64) } with ul := b.wl, uh := b.wh } with wl := b.wl, wh := b.wh } with vl := b.vl, vh := b.vh } : Bd) w hg
  have hs := sync_keep hg hk
  have hp : b = constM x → syncM ({ { { { anyM with tv := b.tv &&& (1#64 <<< 32 - 1#64), tm := b.tm &&& (1#64 <<< 32 - 1#64) } with ul := b.wl, uh := b.wh } with wl := b.wl, wh := b.wh } with vl := b.vl, vh := b.vh } : Bd) = constM (x &&& (1#64 <<< 32 - 1#64)) := fun e => sync_pin hg hk (.inl (by show b.tm &&& (1#64 <<< 32 - 1#64) = 0#64; rw [e]; exact and_z _))
  generalize syncM ({ { { { anyM with tv := b.tv &&& (1#64 <<< 32 - 1#64), tm := b.tm &&& (1#64 <<< 32 - 1#64) } with ul := b.wl, uh := b.wh } with wl := b.wl, wh := b.wh } with vl := b.vl, vh := b.vh } : Bd) = RS at csy hs hp
  refine ⟨RS, hs.2.2, hs.1, hp, fun w => ?_⟩
  go_enter Tryz.func27, Tryz.ntmps27
  go_upto_region 3 with fail
  have HB : AtA ((w.alloc (.cells (bv b) 30)).alloc (.cells (bv zeroM) 30)) w.heap.size (bv b) 30 := (AtA.newb _ rfl _ _).alloc _
  have HR : AtA ((w.alloc (.cells (bv b) 30)).alloc (.cells (bv zeroM) 30)) (w.heap.size + 1) (bv zeroM) 30 := AtA.newb _ (by simp) _ _
  have HF : Gr w ((w.alloc (.cells (bv b) 30)).alloc (.cells (bv zeroM) 30)) := Gr.alloc (Gr.alloc (Gr.refl w) _ _) _ _
  have nBR : w.heap.size ≠ w.heap.size + 1 := by omega
  have hPR : w.heap.size ≤ w.heap.size + 1 := by omega
  revert HB HR HF nBR hPR
  rw [bv_zero]
  generalize ((w.alloc (.cells (bv b) 30)).alloc (.cells _ 30)) = W0
  generalize w.heap.size + 1 = PR
  generalize hw0 : w.heap.size = PB
  intro HB HR HF nBR hPR
  rw [← hw0] at hPR
  rw [← bv_zero] at HR
  refine wp_region_seqq (C := Gr W0) (Gr.refl _) ?_
  refine q_do (by rfl) ?_
  refine q_loadB rfl rfl (fun w h => (HB).gr h) ?_
  refine q_do (by rfl) ?_
  refine q_call1 rfl rfl (fun w => by go_simp) (grc (fun w => k_none b w) (by rw [nnB_of gb])) ?_
  refine q_do (by rfl) ?_
  refine q_assign (v := .bool false) rfl rfl ?_
  simp only [Act.put, List.setIfInBounds_toArray, List.set_cons_zero, List.set_cons_succ]
  intro wq1 hq1
  have hPB_1 := (HB).gr hq1
  have hPR_1 := (HR).gr hq1
  have hF_1 := (HF).trans hq1
  go_upto_region 5 with fail
  refine wp_region_seqW (by kernel_rfl) ?_
  refine seq_do ?_
  refine wp_call0 rfl (by go_simp) ?_
  refine ((k_any) _).mono ?_
  rintro e wk2 ⟨rfl, hk2⟩
  refine ⟨_, rfl, ?_⟩
  have hPB_2 := (hPB_1).gr hk2
  have hPR_2 := (hPR_1).gr hk2
  have hF_2 := (hF_1).trans hk2
  refine seq_do ?_
  refine wp_allocB rfl ?_
  intro ws3 hn3 hg3
  have hge3 := (hF_2).below.size
  have hnePB_PN3 : PB ≠ wk2.heap.size := Nat.ne_of_lt (hPB_2).lt
  have hnePR_PN3 : PR ≠ wk2.heap.size := Nat.ne_of_lt (hPR_2).lt
  have hPB_3 := (hPB_2).gr hg3
  have hPR_3 := (hPR_2).gr hg3
  have hF_3 := (hF_2).trans hg3
  revert hn3 hge3 hnePB_PN3 hnePR_PN3
  generalize wk2.heap.size = PN3
  intro hn3 hge3 hnePB_PN3 hnePR_PN3
  refine seq_do ?_
  refine wp_storeB rfl rfl rfl (hn3) ?_
  intro ws4 hs4 gx4
  have hPB_4 := (hPB_3).grx gx4 hnePB_PN3
  have hPR_4 := (hPR_3).grx gx4 hnePR_PN3
  have hF_4 := gx4.gr _ (hF_3) hge3
  simp only [Act.put, List.setIfInBounds_toArray, List.set_cons_zero, List.set_cons_succ]
  refine seq_end ?_
  go_upto_region 6 with fail
  refine wp_region_seqW (by kernel_rfl) ?_
  refine seq_do ?_
  refine wp_fa0 rfl rfl ?_
  refine seq_do ?_
  refine wp_pT rfl rfl (hPB_4) rfl rfl ?_
  refine seq_do ?_
  refine wp_move (v := .int .u64 32) rfl rfl ?_
  simp only [Act.put, List.setIfInBounds_toArray, List.set_cons_zero, List.set_cons_succ]
  refine seq_do ?_
  refine wp_call2 rfl rfl rfl (by go_simp) ?_
  refine ((fun w => Go.Proofs.YtekenpgagfmgkaaGreat.cv (Tn.low_any b.tv b.tm 32 w)) _).mono ?_
  rintro e wk5 ⟨rfl, hk5⟩
  refine ⟨_, rfl, ?_⟩
  have hPB_5 := (hPB_4).gr hk5
  have hPR_5 := (hPR_4).gr hk5
  have hPN3_5 := (hs4).gr hk5
  have hF_5 := (hF_4).trans hk5
  refine seq_do ?_
  refine wp_fa0 rfl rfl ?_
  refine seq_do ?_
  refine wp_stT rfl rfl rfl (hPN3_5) ?_
  intro ws6 hs6 gx6
  have hPB_6 := (hPB_5).grx gx6 hnePB_PN3
  have hPR_6 := (hPR_5).grx gx6 hnePR_PN3
  have hF_6 := gx6.gr _ (hF_5) hge3
  simp only [Act.put, List.setIfInBounds_toArray, List.set_cons_zero, List.set_cons_succ]
  refine seq_end ?_
  go_upto_region 8 with fail
  refine wp_region_inv (by kernel_rfl) (fun L ac wx => ∃ (y30 y31 y32 y33 y34 y35 y36 y37 y38 : Value), ac = ⟨(.agg (bv b) :: .int .u64 32 :: .pointer (some ⟨PB, 0, none⟩) :: undef :: .pointer (some ⟨PR, 0, none⟩) :: .pointer (some ⟨PN3, 0, none⟩) :: .bool false :: .int .u64 32 :: .bool true :: .bool true :: .int .u64 32 :: .bool true :: .bool true :: .bool true :: .int .u64 32 :: .bool false :: .bool false :: undef :: .bool false :: .agg (bv b) :: .bool false :: undef :: .agg (bv anyM) :: .pointer (some ⟨PB, 0, none⟩) :: .agg #[.int .u64 (iv b.tv), .int .u64 (iv b.tm)] :: .int .u64 32 :: .agg #[.int .u64 (iv (b.tv &&& (1#64 <<< 32 - 1#64))), .int .u64 (iv (b.tm &&& (1#64 <<< 32 - 1#64)))] :: .pointer (some ⟨PN3, 0, none⟩) :: .int .u64 32 :: .bool true :: y30 :: y31 :: y32 :: y33 :: y34 :: y35 :: y36 :: y37 :: y38 :: undef :: undef :: [] : List Value).toArray, []⟩ ∧ GrX PN3 ws6 wx ∧ AtA wx PN3 (bv (sel (L 11) ({ { { { anyM with tv := (b.tv &&& (1#64 <<< 32 - 1#64)), tm := (b.tm &&& (1#64 <<< 32 - 1#64)) } with ul := b.wl, uh := b.wh } with wl := b.wl, wh := b.wh } with vl := b.vl, vh := b.vh } : Bd) (sel (L 9) ({ { { anyM with tv := (b.tv &&& (1#64 <<< 32 - 1#64)), tm := (b.tm &&& (1#64 <<< 32 - 1#64)) } with ul := b.wl, uh := b.wh } with wl := b.wl, wh := b.wh } : Bd) (sel (L 7) ({ { anyM with tv := (b.tv &&& (1#64 <<< 32 - 1#64)), tm := (b.tm &&& (1#64 <<< 32 - 1#64)) } with ul := b.wl, uh := b.wh } : Bd) ({ anyM with tv := (b.tv &&& (1#64 <<< 32 - 1#64)), tm := (b.tm &&& (1#64 <<< 32 - 1#64)) } : Bd))))) 30 ∧ (L 0 = true → y30 = .pointer (some ⟨PB, 6, none⟩)) ∧ (L 1 = true → y31 = .agg #[.int .u64 b.wl, .int .u64 b.wh]) ∧ (L 2 = true → y32 = .pointer (some ⟨PB, 6, none⟩)) ∧ (L 3 = true → y33 = .agg #[.int .u64 b.wl, .int .u64 b.wh]) ∧ (L 4 = true → y34 = .pointer (some ⟨PB, 8, none⟩)) ∧ (L 5 = true → y35 = .agg #[.int .i64 b.vl, .int .i64 b.vh]) ∧ (L 6 = true → y36 = .pointer (some ⟨PN3, 2, none⟩)) ∧ (L 8 = true → y37 = .pointer (some ⟨PN3, 6, none⟩)) ∧ (L 10 = true → y38 = .pointer (some ⟨PN3, 8, none⟩)) ∧ (L 9 = true → L 7 = true) ∧ (L 11 = true → L 9 = true)) (by kernel_rfl) ?h0 ?step ?fin
  case h0 => exact ⟨undef, undef, undef, undef, undef, undef, undef, undef, undef, rfl, GrX.of (Gr.drew (Gr.refl _)), (hs6).drew, (fun h => by cases h), (fun h => by cases h), (fun h => by cases h), (fun h => by cases h), (fun h => by cases h), (fun h => by cases h), (fun h => by cases h), (fun h => by cases h), (fun h => by cases h), (fun h => by cases h), (fun h => by cases h)⟩
  case step =>
    refine allOps_cons 0 ?_ ?_
    · refine keeps_free rfl ?_
      rintro L ac wx hL hd ⟨y30, y31, y32, y33, y34, y35, y36, y37, y38, rfl, hG, hA, f0, f1, f2, f3, f4, f5, f6, f8, f10, o9, o11⟩
      refine wp_fa3 rfl rfl ?_
      exact ⟨.pointer (some ⟨PB, 6, none⟩), y31, y32, y33, y34, y35, y36, y37, y38, rfl, hG, hA, fun _ => rfl, f1, f2, f3, f4, f5, f6, f8, f10, o9, o11⟩
    refine allOps_cons 1 ?_ ?_
    · refine keeps_free rfl ?_
      rintro L ac wx hL hd ⟨y30, y31, y32, y33, y34, y35, y36, y37, y38, rfl, hG, hA, f0, f1, f2, f3, f4, f5, f6, f8, f10, o9, o11⟩
      obtain ⟨e0, -⟩ := hd
      have h0 := f0 (e0 rfl); subst h0
      refine wp_pU rfl rfl ((hPB_6).grx hG hnePB_PN3) rfl rfl ?_
      exact ⟨_, .agg #[.int .u64 b.wl, .int .u64 b.wh], y32, y33, y34, y35, y36, y37, y38, rfl, hG, hA, fun _ => rfl, fun _ => rfl, f2, f3, f4, f5, f6, f8, f10, o9, o11⟩
    refine allOps_cons 2 ?_ ?_
    · refine keeps_free rfl ?_
      rintro L ac wx hL hd ⟨y30, y31, y32, y33, y34, y35, y36, y37, y38, rfl, hG, hA, f0, f1, f2, f3, f4, f5, f6, f8, f10, o9, o11⟩
      obtain ⟨e0, -⟩ := hd
      refine wp_fa3 rfl rfl ?_
      exact ⟨y30, y31, .pointer (some ⟨PB, 6, none⟩), y33, y34, y35, y36, y37, y38, rfl, hG, hA, f0, f1, fun _ => rfl, f3, f4, f5, f6, f8, f10, o9, o11⟩
    refine allOps_cons 3 ?_ ?_
    · refine keeps_free rfl ?_
      rintro L ac wx hL hd ⟨y30, y31, y32, y33, y34, y35, y36, y37, y38, rfl, hG, hA, f0, f1, f2, f3, f4, f5, f6, f8, f10, o9, o11⟩
      obtain ⟨e0, e1, -⟩ := hd
      have h0 := f2 (e0 rfl); subst h0
      refine wp_pU rfl rfl ((hPB_6).grx hG hnePB_PN3) rfl rfl ?_
      exact ⟨y30, y31, _, .agg #[.int .u64 b.wl, .int .u64 b.wh], y34, y35, y36, y37, y38, rfl, hG, hA, f0, f1, fun _ => rfl, fun _ => rfl, f4, f5, f6, f8, f10, o9, o11⟩
    refine allOps_cons 4 ?_ ?_
    · refine keeps_free rfl ?_
      rintro L ac wx hL hd ⟨y30, y31, y32, y33, y34, y35, y36, y37, y38, rfl, hG, hA, f0, f1, f2, f3, f4, f5, f6, f8, f10, o9, o11⟩
      obtain ⟨e0, -⟩ := hd
      refine wp_fa4 rfl rfl ?_
      exact ⟨y30, y31, y32, y33, .pointer (some ⟨PB, 8, none⟩), y35, y36, y37, y38, rfl, hG, hA, f0, f1, f2, f3, fun _ => rfl, f5, f6, f8, f10, o9, o11⟩
    refine allOps_cons 5 ?_ ?_
    · refine keeps_free rfl ?_
      rintro L ac wx hL hd ⟨y30, y31, y32, y33, y34, y35, y36, y37, y38, rfl, hG, hA, f0, f1, f2, f3, f4, f5, f6, f8, f10, o9, o11⟩
      obtain ⟨e0, e1, -⟩ := hd
      have h0 := f4 (e0 rfl); subst h0
      refine wp_pS rfl rfl ((hPB_6).grx hG hnePB_PN3) rfl rfl ?_
      exact ⟨y30, y31, y32, y33, _, .agg #[.int .i64 b.vl, .int .i64 b.vh], y36, y37, y38, rfl, hG, hA, f0, f1, f2, f3, fun _ => rfl, fun _ => rfl, f6, f8, f10, o9, o11⟩
    refine allOps_cons 6 ?_ ?_
    · refine keeps_free rfl ?_
      rintro L ac wx hL hd ⟨y30, y31, y32, y33, y34, y35, y36, y37, y38, rfl, hG, hA, f0, f1, f2, f3, f4, f5, f6, f8, f10, o9, o11⟩
      obtain ⟨e0, e1, e2, e3, e4, e5, -⟩ := hd
      refine wp_fa1 rfl rfl ?_
      exact ⟨y30, y31, y32, y33, y34, y35, .pointer (some ⟨PN3, 2, none⟩), y37, y38, rfl, hG, hA, f0, f1, f2, f3, f4, f5, fun _ => rfl, f8, f10, o9, o11⟩
    refine allOps_cons 7 ?_ ?_
    · refine keeps_free rfl ?_
      rintro L ac wx hL hd ⟨y30, y31, y32, y33, y34, y35, y36, y37, y38, rfl, hG, hA, f0, f1, f2, f3, f4, f5, f6, f8, f10, o9, o11⟩
      obtain ⟨e0, e1, e2, e3, e4, e5, e6, e7, -⟩ := hd
      have h0 := f6 (e0 rfl); subst h0; have h1 := f1 (e1 rfl); subst h1
      have l9 : L 9 = false := by
        cases h : L 9 with
        | false => rfl
        | true => have := o9 h; rw [hL] at this; cases this
      have l11 : L 11 = false := by
        cases h : L 11 with
        | false => rfl
        | true => have := o11 h; rw [l9] at this; cases this
      rw [l11, l9, hL] at hA
      refine wp_stU rfl rfl rfl hA ?_
      intro w1 hn hgx
      exact ⟨y30, _, y32, y33, y34, y35, _, y37, y38, rfl, hG.trans hgx, (by rw [show upd L 7 11 = false from l11, show upd L 7 9 = false from l9]; exact hn), f0, fun _ => rfl, f2, f3, f4, f5, fun _ => rfl, f8, f10, fun _ => rfl, o11⟩
    refine allOps_cons 8 ?_ ?_
    · refine keeps_free rfl ?_
      rintro L ac wx hL hd ⟨y30, y31, y32, y33, y34, y35, y36, y37, y38, rfl, hG, hA, f0, f1, f2, f3, f4, f5, f6, f8, f10, o9, o11⟩
      obtain ⟨e0, e1, e2, e3, e4, e5, e6, e7, -⟩ := hd
      refine wp_fa3 rfl rfl ?_
      exact ⟨y30, y31, y32, y33, y34, y35, y36, .pointer (some ⟨PN3, 6, none⟩), y38, rfl, hG, hA, f0, f1, f2, f3, f4, f5, f6, fun _ => rfl, f10, o9, o11⟩
    refine allOps_cons 9 ?_ ?_
    · refine keeps_free rfl ?_
      rintro L ac wx hL hd ⟨y30, y31, y32, y33, y34, y35, y36, y37, y38, rfl, hG, hA, f0, f1, f2, f3, f4, f5, f6, f8, f10, o9, o11⟩
      obtain ⟨e0, e1, e2, e3, e4, e5, e6, e7, e8, e9, e10, -⟩ := hd
      have h0 := f8 (e0 rfl); subst h0; have h1 := f3 (e1 rfl); subst h1
      have l11 : L 11 = false := by
        cases h : L 11 with
        | false => rfl
        | true => have := o11 h; rw [hL] at this; cases this
      rw [l11, hL, show L 7 = true from e2 rfl] at hA
      refine wp_stW rfl rfl rfl hA ?_
      intro w1 hn hgx
      exact ⟨y30, y31, y32, _, y34, y35, y36, _, y38, rfl, hG.trans hgx, (by rw [show upd L 9 11 = false from l11]; exact hn), f0, f1, f2, fun _ => rfl, f4, f5, f6, fun _ => rfl, f10, fun _ => e2 rfl, fun _ => rfl⟩
    refine allOps_cons 10 ?_ ?_
    · refine keeps_free rfl ?_
      rintro L ac wx hL hd ⟨y30, y31, y32, y33, y34, y35, y36, y37, y38, rfl, hG, hA, f0, f1, f2, f3, f4, f5, f6, f8, f10, o9, o11⟩
      obtain ⟨e0, e1, e2, e3, e4, e5, e6, e7, e8, e9, -⟩ := hd
      refine wp_fa4 rfl rfl ?_
      exact ⟨y30, y31, y32, y33, y34, y35, y36, y37, .pointer (some ⟨PN3, 8, none⟩), rfl, hG, hA, f0, f1, f2, f3, f4, f5, f6, f8, fun _ => rfl, o9, o11⟩
    refine allOps_cons 11 ?_ ?_
    · refine keeps_free rfl ?_
      rintro L ac wx hL hd ⟨y30, y31, y32, y33, y34, y35, y36, y37, y38, rfl, hG, hA, f0, f1, f2, f3, f4, f5, f6, f8, f10, o9, o11⟩
      obtain ⟨e0, e1, e2, e3, e4, e5, e6, e7, e8, e9, e10, e11, e12, -⟩ := hd
      have h0 := f10 (e0 rfl); subst h0; have h1 := f5 (e1 rfl); subst h1
      rw [hL, show L 9 = true from e2 rfl, show L 7 = true from e10 rfl] at hA
      refine wp_stV rfl rfl rfl hA ?_
      intro w1 hn hgx
      exact ⟨y30, y31, y32, y33, y34, _, y36, y37, _, rfl, hG.trans hgx, (by skip; exact hn), f0, f1, f2, f3, f4, fun _ => rfl, f6, f8, fun _ => rfl, o9, fun _ => e2 rfl⟩
    exact allOps_nil 12
  case fin =>
    rintro L ac wf7 hall ⟨y30, y31, y32, y33, y34, y35, y36, y37, y38, rfl, hG7, hA7, f0, f1, f2, f3, f4, f5, f6, f8, f10, o9, o11⟩
    have l0 : L 0 = true := hall 0 (by decide)
    have q0 := f0 l0; subst q0
    have l1 : L 1 = true := hall 1 (by decide)
    have q1 := f1 l1; subst q1
    have l2 : L 2 = true := hall 2 (by decide)
    have q2 := f2 l2; subst q2
    have l3 : L 3 = true := hall 3 (by decide)
    have q3 := f3 l3; subst q3
    have l4 : L 4 = true := hall 4 (by decide)
    have q4 := f4 l4; subst q4
    have l5 : L 5 = true := hall 5 (by decide)
    have q5 := f5 l5; subst q5
    have l6 : L 6 = true := hall 6 (by decide)
    have q6 := f6 l6; subst q6
    have l7 : L 7 = true := hall 7 (by decide)
    have l8 : L 8 = true := hall 8 (by decide)
    have q8 := f8 l8; subst q8
    have l9 : L 9 = true := hall 9 (by decide)
    have l10 : L 10 = true := hall 10 (by decide)
    have q10 := f10 l10; subst q10
    have l11 : L 11 = true := hall 11 (by decide)
    rw [l11, l9, l7] at hA7
    have hPB_7 := (hPB_6).grx hG7 hnePB_PN3
    have hPR_7 := (hPR_6).grx hG7 hnePR_PN3
    have hF_7 := hG7.gr _ (hF_6) hge3
    go_upto_region 9 with fail
    refine wp_region_seqW (by kernel_rfl) ?_
    refine seq_do ?_
    refine wp_loadB rfl rfl (hA7) ?_
    refine seq_do ?_
    refine wp_call1 rfl rfl (by go_simp) ?_
    refine ((csy) _).mono ?_
    rintro e wk8 ⟨rfl, hk8⟩
    refine ⟨_, rfl, ?_⟩
    have hPB_8 := (hPB_7).gr hk8
    have hPR_8 := (hPR_7).gr hk8
    have hPN3_8 := (hA7).gr hk8
    have hF_8 := (hF_7).trans hk8
    refine seq_do ?_
    refine wp_storeB rfl rfl rfl (hPR_8) ?_
    intro ws9 hs9 gx9
    have hPB_9 := (hPB_8).grx gx9 nBR
    have hPN3_9 := (hPN3_8).grx gx9 (Ne.symm hnePR_PN3)
    have hF_9 := gx9.gr _ (hF_8) hPR
    simp only [Act.put, List.setIfInBounds_toArray, List.set_cons_zero, List.set_cons_succ]
    refine seq_end ?_
    obtain ⟨r0, r1, r2, r3, r4, r5, r6, r7, r8, r9⟩ := cells_bv (hs9)
    go_wp2
    refine bodyPost_ret (by simp [results, Tryz.results27, go_sem, r0, r1, r2, r3, r4, r5, r6, r7, r8, r9]; try rfl) rfl ?_
    exact ⟨rfl, hF_9⟩
end Go.Proofs.YtekenpgagfmgkaaGreat
end
section
namespace Go.Proofs.YtekenpgagfmgkaaGreat
open Go.ChangeShapes Go.WideShapes Go.ChangeAt Go.RowKit
open Tn (iv)
set_option linter.unusedVariables false
set_option linter.unusedSimpArgs false
set_option maxRecDepth 20000

theorem slow_iv (x : BitVec 64) : wrap64 (iv ((x <<< 32).sshiftRight 32)) = sg (iv x) := by
  rw [← sar_iv (x <<< 32) (by decide), ← shl_iv x (by decide)]
  rw [wr64]
  show wrap64 (iv x * 4294967296 % 18446744073709551616) / 4294967296 = sg (iv x)
  unfold wrap64 sg
  omega
set_option maxHeartbeats 4000000 in
theorem k_slow {b : Bd} {x : BitVec 64} (gb : Good b) (kb : Has b x) : ∃ c : Bd, Good c ∧ Has c ((x <<< 32).sshiftRight 32) ∧ (b = constM x → c = constM ((x <<< 32).sshiftRight 32)) ∧ ∀ w, Calls Tryz.prog 137 #[.agg (bv b)] w fun e w' => e = .returned (.agg (bv c)) ∧ Gr w w' := by
  have hz := has_any ((x <<< 32).sshiftRight 32)
  have e32 := slow_iv x
  have ok := Tn.sar_ok (Tn.shl_ok gb.ok 32) 32
  have hk : Has ({ { anyM with tv := (b.tv <<< 32).sshiftRight 32, tm := (b.tm <<< 32).sshiftRight 32 } with sl := b.vl, sh := b.vh } : Bd) ((x <<< 32).sshiftRight 32) := ⟨t_of ok (Tn.sar_has (Tn.shl_has kb.th 32) 32), hz.u0, hz.u1, by rw [e32]; exact kb.v0, by rw [e32]; exact kb.v1, hz.w0, hz.w1, hz.v0, hz.v1⟩
  have hg : Good ({ { anyM with tv := (b.tv <<< 32).sshiftRight 32, tm := (b.tm <<< 32).sshiftRight 32 } with sl := b.vl, sh := b.vh } : Bd) := good_by ok hk good_any.u0 good_any.u2 (Int.le_trans (by decide) gb.v0) (Int.le_trans gb.v2 (by decide)) good_any.w0 good_any.w2 good_any.v0 good_any.v2
  have csy := fun w => k_sync ({ { anyM with tv := (b.tv <<< 32).sshiftRight 32, tm := (b.tm <<< 32).sshiftRight 32 } with sl := b.vl, sh := b.vh } : Bd) w hg
  have hs := sync_keep hg hk
  have hp : b = constM x → syncM ({ { anyM with tv := (b.tv <<< 32).sshiftRight 32, tm := (b.tm <<< 32).sshiftRight 32 } with sl := b.vl, sh := b.vh } : Bd) = constM ((x <<< 32).sshiftRight 32) := fun e => sync_pin hg hk (.inl (by show (b.tm <<< 32).sshiftRight 32 = 0#64; rw [e]; show ((0#64) <<< 32).sshiftRight 32 = 0#64; decide))
  generalize syncM ({ { anyM with tv := (b.tv <<< 32).sshiftRight 32, tm := (b.tm <<< 32).sshiftRight 32 } with sl := b.vl, sh := b.vh } : Bd) = RS at csy hs hp
  refine ⟨RS, hs.2.2, hs.1, hp, fun w => ?_⟩
  go_enter Tryz.func137, Tryz.ntmps137
  go_upto_region 1 with fail
  have HB : AtA ((w.alloc (.cells (bv b) 30)).alloc (.cells (bv zeroM) 30)) w.heap.size (bv b) 30 := (AtA.newb _ rfl _ _).alloc _
  have HR : AtA ((w.alloc (.cells (bv b) 30)).alloc (.cells (bv zeroM) 30)) (w.heap.size + 1) (bv zeroM) 30 := AtA.newb _ (by simp) _ _
  have HF : Gr w ((w.alloc (.cells (bv b) 30)).alloc (.cells (bv zeroM) 30)) := Gr.alloc (Gr.alloc (Gr.refl w) _ _) _ _
  have nBR : w.heap.size ≠ w.heap.size + 1 := by omega
  have hPR : w.heap.size ≤ w.heap.size + 1 := by omega
  revert HB HR HF nBR hPR
  rw [bv_zero]
  generalize ((w.alloc (.cells (bv b) 30)).alloc (.cells _ 30)) = W0
  generalize w.heap.size + 1 = PR
  generalize hw0 : w.heap.size = PB
  intro HB HR HF nBR hPR
  rw [← hw0] at hPR
  rw [← bv_zero] at HR
  refine wp_region_seqW (by kernel_rfl) ?_
  refine seq_do ?_
  refine wp_call0 rfl (by go_simp) ?_
  refine ((k_any) _).mono ?_
  rintro e wk1 ⟨rfl, hk1⟩
  refine ⟨_, rfl, ?_⟩
  have hPB_1 := (HB).gr hk1
  have hPR_1 := (HR).gr hk1
  have hF_1 := (HF).trans hk1
  refine seq_do ?_
  refine wp_allocB rfl ?_
  intro ws2 hn2 hg2
  have hge2 := (hF_1).below.size
  have hnePB_PN2 : PB ≠ wk1.heap.size := Nat.ne_of_lt (hPB_1).lt
  have hnePR_PN2 : PR ≠ wk1.heap.size := Nat.ne_of_lt (hPR_1).lt
  have hPB_2 := (hPB_1).gr hg2
  have hPR_2 := (hPR_1).gr hg2
  have hF_2 := (hF_1).trans hg2
  revert hn2 hge2 hnePB_PN2 hnePR_PN2
  generalize wk1.heap.size = PN2
  intro hn2 hge2 hnePB_PN2 hnePR_PN2
  refine seq_do ?_
  refine wp_storeB rfl rfl rfl (hn2) ?_
  intro ws3 hs3 gx3
  have hPB_3 := (hPB_2).grx gx3 hnePB_PN2
  have hPR_3 := (hPR_2).grx gx3 hnePR_PN2
  have hF_3 := gx3.gr _ (hF_2) hge2
  simp only [Act.put, List.setIfInBounds_toArray, List.set_cons_zero, List.set_cons_succ]
  refine seq_end ?_
  go_upto_region 2 with fail
  refine wp_region_seqW (by kernel_rfl) ?_
  refine seq_do ?_
  refine wp_fa0 rfl rfl ?_
  refine seq_do ?_
  refine wp_pT rfl rfl (hPB_3) rfl rfl ?_
  refine seq_do ?_
  refine wp_call2 rfl rfl rfl (by go_simp) ?_
  refine ((fun w => Go.Proofs.YtekenpgagfmgkaaGreat.cv (Tn.shl_any b.tv b.tm 32 w)) _).mono ?_
  rintro e wk4 ⟨rfl, hk4⟩
  refine ⟨_, rfl, ?_⟩
  have hPB_4 := (hPB_3).gr hk4
  have hPR_4 := (hPR_3).gr hk4
  have hPN2_4 := (hs3).gr hk4
  have hF_4 := (hF_3).trans hk4
  simp only [Act.put, List.setIfInBounds_toArray, List.set_cons_zero, List.set_cons_succ]
  refine seq_do ?_
  refine wp_call2 rfl rfl rfl (by go_simp) ?_
  refine ((fun w => Go.Proofs.YtekenpgagfmgkaaGreat.cv (Tn.sar_any (b.tv <<< 32) (b.tm <<< 32) 32 w)) _).mono ?_
  rintro e wk5 ⟨rfl, hk5⟩
  refine ⟨_, rfl, ?_⟩
  have hPB_5 := (hPB_4).gr hk5
  have hPR_5 := (hPR_4).gr hk5
  have hPN2_5 := (hPN2_4).gr hk5
  have hF_5 := (hF_4).trans hk5
  refine seq_do ?_
  refine wp_fa0 rfl rfl ?_
  refine seq_do ?_
  refine wp_stT rfl rfl rfl (hPN2_5) ?_
  intro ws6 hs6 gx6
  have hPB_6 := (hPB_5).grx gx6 hnePB_PN2
  have hPR_6 := (hPR_5).grx gx6 hnePR_PN2
  have hF_6 := gx6.gr _ (hF_5) hge2
  simp only [Act.put, List.setIfInBounds_toArray, List.set_cons_zero, List.set_cons_succ]
  refine seq_end ?_
  go_upto_region 3 with fail
  refine wp_region_seqW (by kernel_rfl) ?_
  refine seq_do ?_
  refine wp_fa4 rfl rfl ?_
  refine seq_do ?_
  refine wp_pS rfl rfl (hPB_6) rfl rfl ?_
  refine seq_do ?_
  refine wp_fa2 rfl rfl ?_
  simp only [Act.put, List.setIfInBounds_toArray, List.set_cons_zero, List.set_cons_succ]
  refine seq_do ?_
  refine wp_stS rfl rfl rfl (hs6) ?_
  intro ws7 hs7 gx7
  have hPB_7 := (hPB_6).grx gx7 hnePB_PN2
  have hPR_7 := (hPR_6).grx gx7 hnePR_PN2
  have hF_7 := gx7.gr _ (hF_6) hge2
  simp only [Act.put, List.setIfInBounds_toArray, List.set_cons_zero, List.set_cons_succ]
  refine seq_end ?_
  go_upto_region 4 with fail
  refine wp_region_seqW (by kernel_rfl) ?_
  refine seq_do ?_
  refine wp_loadB rfl rfl (hs7) ?_
  refine seq_do ?_
  refine wp_call1 rfl rfl (by go_simp) ?_
  refine ((csy) _).mono ?_
  rintro e wk8 ⟨rfl, hk8⟩
  refine ⟨_, rfl, ?_⟩
  have hPB_8 := (hPB_7).gr hk8
  have hPR_8 := (hPR_7).gr hk8
  have hPN2_8 := (hs7).gr hk8
  have hF_8 := (hF_7).trans hk8
  refine seq_do ?_
  refine wp_storeB rfl rfl rfl (hPR_8) ?_
  intro ws9 hs9 gx9
  have hPB_9 := (hPB_8).grx gx9 nBR
  have hPN2_9 := (hPN2_8).grx gx9 (Ne.symm hnePR_PN2)
  have hF_9 := gx9.gr _ (hF_8) hPR
  simp only [Act.put, List.setIfInBounds_toArray, List.set_cons_zero, List.set_cons_succ]
  refine seq_end ?_
  obtain ⟨r0, r1, r2, r3, r4, r5, r6, r7, r8, r9⟩ := cells_bv (hs9)
  go_wp2
  refine bodyPost_ret (by simp [results, Tryz.results137, go_sem, r0, r1, r2, r3, r4, r5, r6, r7, r8, r9]; try rfl) rfl ?_
  exact ⟨rfl, hF_9⟩
set_option maxHeartbeats 4000000 in
theorem k_five {b : Bd} {x : BitVec 64} (gb : Good b) (kb : Has b x) : ∃ c : Bd, Good c ∧ Has c (x &&& (1#64 <<< 5 - 1#64)) ∧ (b = constM x → (iv (c.tm &&& (1#64 <<< 6 - 1#64)) == 0) = true) ∧ ∀ w, Calls Tryz.prog 138 #[.agg (bv b)] w fun e w' => e = .returned (.agg (bv c)) ∧ Gr w w' := by
  have hz := has_any (x &&& (1#64 <<< 5 - 1#64))
  have hk : Has ({ anyM with tv := b.tv &&& (1#64 <<< 5 - 1#64), tm := b.tm &&& (1#64 <<< 5 - 1#64) } : Bd) (x &&& (1#64 <<< 5 - 1#64)) := ⟨t_of (o_low gb.ok _) (Tn.low_has kb.th _), hz.u0, hz.u1, hz.s0, hz.s1, hz.w0, hz.w1, hz.v0, hz.v1⟩
  have hg : Good ({ anyM with tv := b.tv &&& (1#64 <<< 5 - 1#64), tm := b.tm &&& (1#64 <<< 5 - 1#64) } : Bd) := good_by (o_low gb.ok _) hk good_any.u0 good_any.u2 good_any.s0 good_any.s2 good_any.w0 good_any.w2 good_any.v0 good_any.v2
  refine ⟨_, hg, hk, fun e => ?_, fun w => ?_⟩
  · rw [e]
    show (iv (0#64 &&& (1#64 <<< 5 - 1#64) &&& (1#64 <<< 6 - 1#64)) == 0) = true
    rw [and_z, and_z]
    rfl
  go_enter Tryz.func138, Tryz.ntmps138
  go_upto_region 1 with fail
  have HB : AtA ((w.alloc (.cells (bv b) 30)).alloc (.cells (bv zeroM) 30)) w.heap.size (bv b) 30 := (AtA.newb _ rfl _ _).alloc _
  have HR : AtA ((w.alloc (.cells (bv b) 30)).alloc (.cells (bv zeroM) 30)) (w.heap.size + 1) (bv zeroM) 30 := AtA.newb _ (by simp) _ _
  have HF : Gr w ((w.alloc (.cells (bv b) 30)).alloc (.cells (bv zeroM) 30)) := Gr.alloc (Gr.alloc (Gr.refl w) _ _) _ _
  have nBR : w.heap.size ≠ w.heap.size + 1 := by omega
  have hPR : w.heap.size ≤ w.heap.size + 1 := by omega
  revert HB HR HF nBR hPR
  rw [bv_zero]
  generalize ((w.alloc (.cells (bv b) 30)).alloc (.cells _ 30)) = W0
  generalize w.heap.size + 1 = PR
  generalize hw0 : w.heap.size = PB
  intro HB HR HF nBR hPR
  rw [← hw0] at hPR
  rw [← bv_zero] at HR
  refine wp_region_seqW (by kernel_rfl) ?_
  refine seq_do ?_
  refine wp_call0 rfl (by go_simp) ?_
  refine ((k_any) _).mono ?_
  rintro e wk1 ⟨rfl, hk1⟩
  refine ⟨_, rfl, ?_⟩
  have hPB_1 := (HB).gr hk1
  have hPR_1 := (HR).gr hk1
  have hF_1 := (HF).trans hk1
  refine seq_do ?_
  refine wp_allocB rfl ?_
  intro ws2 hn2 hg2
  have hge2 := (hF_1).below.size
  have hnePB_PN2 : PB ≠ wk1.heap.size := Nat.ne_of_lt (hPB_1).lt
  have hnePR_PN2 : PR ≠ wk1.heap.size := Nat.ne_of_lt (hPR_1).lt
  have hPB_2 := (hPB_1).gr hg2
  have hPR_2 := (hPR_1).gr hg2
  have hF_2 := (hF_1).trans hg2
  revert hn2 hge2 hnePB_PN2 hnePR_PN2
  generalize wk1.heap.size = PN2
  intro hn2 hge2 hnePB_PN2 hnePR_PN2
  refine seq_do ?_
  refine wp_storeB rfl rfl rfl (hn2) ?_
  intro ws3 hs3 gx3
  have hPB_3 := (hPB_2).grx gx3 hnePB_PN2
  have hPR_3 := (hPR_2).grx gx3 hnePR_PN2
  have hF_3 := gx3.gr _ (hF_2) hge2
  simp only [Act.put, List.setIfInBounds_toArray, List.set_cons_zero, List.set_cons_succ]
  refine seq_end ?_
  go_upto_region 2 with fail
  refine wp_region_seqW (by kernel_rfl) ?_
  refine seq_do ?_
  refine wp_fa0 rfl rfl ?_
  refine seq_do ?_
  refine wp_pT rfl rfl (hPB_3) rfl rfl ?_
  refine seq_do ?_
  refine wp_call2 rfl rfl rfl (by go_simp) ?_
  refine ((fun w => Go.Proofs.YtekenpgagfmgkaaGreat.cv (Tn.low_any b.tv b.tm 5 w)) _).mono ?_
  rintro e wk4 ⟨rfl, hk4⟩
  refine ⟨_, rfl, ?_⟩
  have hPB_4 := (hPB_3).gr hk4
  have hPR_4 := (hPR_3).gr hk4
  have hPN2_4 := (hs3).gr hk4
  have hF_4 := (hF_3).trans hk4
  simp only [Act.put, List.setIfInBounds_toArray, List.set_cons_zero, List.set_cons_succ]
  refine seq_do ?_
  refine wp_fa0 rfl rfl ?_
  refine seq_do ?_
  refine wp_stT rfl rfl rfl (hPN2_4) ?_
  intro ws5 hs5 gx5
  have hPB_5 := (hPB_4).grx gx5 hnePB_PN2
  have hPR_5 := (hPR_4).grx gx5 hnePR_PN2
  have hF_5 := gx5.gr _ (hF_4) hge2
  simp only [Act.put, List.setIfInBounds_toArray, List.set_cons_zero, List.set_cons_succ]
  refine seq_end ?_
  go_upto_region 3 with fail
  refine wp_region_seqW (by kernel_rfl) ?_
  refine seq_do ?_
  refine wp_loadB rfl rfl (hs5) ?_
  refine seq_do ?_
  refine wp_storeB rfl rfl rfl (hPR_5) ?_
  intro ws6 hs6 gx6
  have hPB_6 := (hPB_5).grx gx6 nBR
  have hPN2_6 := (hs5).grx gx6 (Ne.symm hnePR_PN2)
  have hF_6 := gx6.gr _ (hF_5) hPR
  simp only [Act.put, List.setIfInBounds_toArray, List.set_cons_zero, List.set_cons_succ]
  refine seq_end ?_
  obtain ⟨r0, r1, r2, r3, r4, r5, r6, r7, r8, r9⟩ := cells_bv (hs6)
  go_wp2
  refine bodyPost_ret (by simp [results, Tryz.results138, go_sem, r0, r1, r2, r3, r4, r5, r6, r7, r8, r9]; try rfl) rfl ?_
  exact ⟨rfl, hF_6⟩
set_option maxHeartbeats 4000000 in
theorem n_plain {a b : Bd} {x y z : BitVec 64} {f : FuncId} {k : Int} {p : Prop} (ga : Good a) (gb : Good b) (ka : Has a x) (kb : Has b y) (hfn : ∀ u v w, (callFunc f #[u, v]).run Tryz.prog w = .ok (.enter f #[u, v]) w) (h12 : (k == 12) = false) (h6 : (k == 6) = false) (h7 : (k == 7) = false) (hD : ∀ {a b : Bd}, Good a → Good b → Has a (x &&& (1#64 <<< 32 - 1#64)) → Has b (y &&& (1#64 <<< 32 - 1#64)) → Deed f a b (x &&& (1#64 <<< 32 - 1#64)) (y &&& (1#64 <<< 32 - 1#64)) z p) :
    ∃ c : Bd, Good c ∧ Has c (z &&& (1#64 <<< 32 - 1#64)) ∧ (p → a = constM x → b = constM y → c = constM (z &&& (1#64 <<< 32 - 1#64))) ∧ ∀ w, Calls Tryz.prog 65 #[.int .u8 k, .func (.func f) #[] #[], .agg (bv a), .agg (bv b)] w fun e w' => e = .returned (.agg (bv c)) ∧ Gr w w' := by
  obtain ⟨XA, gxa, kxa, pxa, cxa⟩ := k_low32 ga ka
  obtain ⟨YB, gyb, kyb, pyb, cyb⟩ := k_low32 gb kb
  obtain ⟨C, gc, kc, pc, cf⟩ := hD gxa gyb kxa kyb
  obtain ⟨DD, gd, kd, pd, cd⟩ := k_low32 gc kc
  refine ⟨DD, gd, kd, fun hp ea eb => pd (pc hp (pxa ea) (pyb eb)), fun w => ?_⟩
  have hfn := hfn (.agg (bv XA)) (.agg (bv YB))
  go_enter Tryz.func65, Tryz.ntmps65
  go_upto_region 1 with fail
  have HA : AtA (((w.alloc (.cells (bv a) 30)).alloc (.cells (bv b) 30)).alloc (.cells (bv zeroM) 30)) w.heap.size (bv a) 30 := ((AtA.newb _ rfl _ _).alloc _).alloc _
  have HB : AtA (((w.alloc (.cells (bv a) 30)).alloc (.cells (bv b) 30)).alloc (.cells (bv zeroM) 30)) (w.heap.size + 1) (bv b) 30 := (AtA.newb _ (by simp) _ _).alloc _
  have HR : AtA (((w.alloc (.cells (bv a) 30)).alloc (.cells (bv b) 30)).alloc (.cells (bv zeroM) 30)) (w.heap.size + 1 + 1) (bv zeroM) 30 := AtA.newb _ (by simp) _ _
  have HF : Gr w (((w.alloc (.cells (bv a) 30)).alloc (.cells (bv b) 30)).alloc (.cells (bv zeroM) 30)) := Gr.alloc (Gr.alloc (Gr.alloc (Gr.refl w) _ _) _ _) _ _
  have nAR : w.heap.size ≠ w.heap.size + 1 + 1 := by omega
  have nBR : w.heap.size + 1 ≠ w.heap.size + 1 + 1 := by omega
  have hPR : w.heap.size ≤ w.heap.size + 1 + 1 := by omega
  revert HA HB HR HF nAR nBR hPR
  rw [bv_zero]
  generalize (((w.alloc (.cells (bv a) 30)).alloc (.cells (bv b) 30)).alloc (.cells _ 30)) = W0
  generalize w.heap.size + 1 + 1 = PR
  generalize w.heap.size + 1 = PB
  generalize hw0 : w.heap.size = PA
  intro HA HB HR HF nAR nBR hPR
  rw [← hw0] at hPR
  rw [← bv_zero] at HR
  go_cut [9, 10] (fun c9 c10 wx => ∃ (p1_4 : Nat) (p1_5 : Nat) , c9 = .pointer (some ⟨p1_4, 0, none⟩) ∧ c10 = .pointer (some ⟨p1_5, 0, none⟩) ∧ AtA wx p1_4 (bv XA) 30 ∧ AtA wx p1_5 (bv YB) 30 ∧ p1_4 ≠ p1_5 ∧ W0.heap.size ≤ p1_4 ∧ W0.heap.size ≤ p1_5 ∧ Gr W0 wx)
  case first =>
    rename_i J K2 hJ hK2
    refine wp_region_inv (by kernel_rfl) (fun L ac wx => ∃ (y11 y12 y13 y14 y9 y10 : Value) (p1_4 : Nat) (p1_5 : Nat), ac = ⟨(.int .u8 k :: .func (.func f) #[] #[] :: .agg (bv a) :: .agg (bv b) :: undef :: undef :: .pointer (some ⟨PA, 0, none⟩) :: .pointer (some ⟨PB, 0, none⟩) :: .pointer (some ⟨PR, 0, none⟩) :: y9 :: y10 :: y11 :: y12 :: y13 :: y14 :: undef :: undef :: undef :: undef :: undef :: undef :: undef :: undef :: undef :: undef :: undef :: undef :: undef :: undef :: undef :: undef :: undef :: undef :: undef :: undef :: undef :: undef :: undef :: undef :: undef :: undef :: undef :: undef :: [] : List Value).toArray, []⟩ ∧ Gr W0 wx ∧ (L 0 = true → y11 = .agg (bv a)) ∧ (L 1 = true → y12 = .agg (bv XA)) ∧ (L 2 = true → y13 = .agg (bv b)) ∧ (L 3 = true → y14 = .agg (bv YB)) ∧ (L 4 = true → y9 = .pointer (some ⟨p1_4, 0, none⟩) ∧ W0.heap.size ≤ p1_4 ∧ AtA wx p1_4 (bv (sel (L 6) XA zeroM)) 30) ∧ (L 5 = true → y10 = .pointer (some ⟨p1_5, 0, none⟩) ∧ W0.heap.size ≤ p1_5 ∧ AtA wx p1_5 (bv (sel (L 7) YB zeroM)) 30) ∧ (L 6 = true → L 1 = true ∧ L 4 = true) ∧ (L 7 = true → L 3 = true ∧ L 5 = true) ∧ (L 4 = true → L 5 = true → p1_4 ≠ p1_5)) (by kernel_rfl) ?h0 ?step ?fin
    case h0 => exact ⟨undef, undef, undef, undef, undef, undef, 0, 0, rfl, Gr.drew (Gr.refl _), (fun h => by cases h), (fun h => by cases h), (fun h => by cases h), (fun h => by cases h), (fun h => by cases h), (fun h => by cases h), (fun h => by cases h), (fun h => by cases h), (fun h => by cases h)⟩
    case step =>
      refine allOps_cons 0 ?_ ?_
      · refine keeps_free rfl ?_
        rintro L ac wx hL hd ⟨y11, y12, y13, y14, y9, y10, p1_4, p1_5, rfl, hG, f0, f1, f2, f3, f4, f5, f6, f7, g4_5⟩
        refine wp_loadB rfl rfl ((HA).gr hG) ?_
        exact ⟨.agg (bv a), y12, y13, y14, y9, y10, p1_4, p1_5, rfl, hG, fun _ => rfl, f1, f2, f3, f4, f5, f6, f7, g4_5⟩
      refine allOps_cons 1 ?_ ?_
      · refine keeps_free rfl ?_
        rintro L ac wx hL hd ⟨y11, y12, y13, y14, y9, y10, p1_4, p1_5, rfl, hG, f0, f1, f2, f3, f4, f5, f6, f7, g4_5⟩
        obtain ⟨e0, -⟩ := hd
        have h0 := f0 (e0 rfl); subst h0
        have l6 : L 6 = false := by
          cases h : L 6 with
          | false => rfl
          | true => have := (f6 h).1; rw [hL] at this; cases this
        refine wp_call2 rfl rfl rfl (by go_simp) ?_
        refine (cxa _).mono ?_
        rintro e w1 ⟨rfl, hg⟩
        refine ⟨_, rfl, ?_⟩
        exact ⟨_, _, y13, y14, y9, y10, p1_4, p1_5, rfl, hG.trans hg, fun _ => rfl, fun _ => rfl, f2, f3, fun h => let ⟨z1, z2, z3⟩ := f4 h; ⟨z1, z2, by rw [l6] at z3; rw [show upd L 1 6 = false from l6]; exact z3.gr hg⟩, fun h => let ⟨z1, z2, z3⟩ := f5 h; ⟨z1, z2, z3.gr hg⟩, (fun h => absurd (show L 6 = true from h) (by rw [l6]; decide)), f7, g4_5⟩
      refine allOps_cons 2 ?_ ?_
      · refine keeps_free rfl ?_
        rintro L ac wx hL hd ⟨y11, y12, y13, y14, y9, y10, p1_4, p1_5, rfl, hG, f0, f1, f2, f3, f4, f5, f6, f7, g4_5⟩
        refine wp_loadB rfl rfl ((HB).gr hG) ?_
        exact ⟨y11, y12, .agg (bv b), y14, y9, y10, p1_4, p1_5, rfl, hG, f0, f1, fun _ => rfl, f3, f4, f5, f6, f7, g4_5⟩
      refine allOps_cons 3 ?_ ?_
      · refine keeps_free rfl ?_
        rintro L ac wx hL hd ⟨y11, y12, y13, y14, y9, y10, p1_4, p1_5, rfl, hG, f0, f1, f2, f3, f4, f5, f6, f7, g4_5⟩
        obtain ⟨e0, e1, -⟩ := hd
        have h2 := f2 (e0 rfl); subst h2
        have l7 : L 7 = false := by
          cases h : L 7 with
          | false => rfl
          | true => have := (f7 h).1; rw [hL] at this; cases this
        refine wp_call2 rfl rfl rfl (by go_simp) ?_
        refine (cyb _).mono ?_
        rintro e w1 ⟨rfl, hg⟩
        refine ⟨_, rfl, ?_⟩
        exact ⟨y11, y12, _, _, y9, y10, p1_4, p1_5, rfl, hG.trans hg, f0, f1, fun _ => rfl, fun _ => rfl, fun h => let ⟨z1, z2, z3⟩ := f4 h; ⟨z1, z2, z3.gr hg⟩, fun h => let ⟨z1, z2, z3⟩ := f5 h; ⟨z1, z2, by rw [l7] at z3; rw [show upd L 3 7 = false from l7]; exact z3.gr hg⟩, f6, (fun h => absurd (show L 7 = true from h) (by rw [l7]; decide)), g4_5⟩
      refine allOps_cons 4 ?_ ?_
      · refine keeps_free rfl ?_
        rintro L ac wx hL hd ⟨y11, y12, y13, y14, y9, y10, p1_4, p1_5, rfl, hG, f0, f1, f2, f3, f4, f5, f6, f7, g4_5⟩
        have l6 : L 6 = false := by
          cases h : L 6 with
          | false => rfl
          | true => have := (f6 h).2; rw [hL] at this; cases this
        refine wp_allocB rfl ?_
        intro w1 hn hg
        exact ⟨y11, y12, y13, y14, _, y10, wx.heap.size, p1_5, rfl, hG.trans hg, f0, f1, f2, f3, fun _ => ⟨rfl, hG.below.size, by rw [show upd L 4 6 = false from l6]; exact hn⟩, fun h => let ⟨z1, z2, z3⟩ := f5 h; ⟨z1, z2, z3.gr hg⟩, (fun h => absurd (show L 6 = true from h) (by rw [l6]; decide)), f7, fun _ h => by have z := (f5 h).2.2.lt; omega⟩
      refine allOps_cons 5 ?_ ?_
      · refine keeps_free rfl ?_
        rintro L ac wx hL hd ⟨y11, y12, y13, y14, y9, y10, p1_4, p1_5, rfl, hG, f0, f1, f2, f3, f4, f5, f6, f7, g4_5⟩
        have l7 : L 7 = false := by
          cases h : L 7 with
          | false => rfl
          | true => have := (f7 h).2; rw [hL] at this; cases this
        refine wp_allocB rfl ?_
        intro w1 hn hg
        exact ⟨y11, y12, y13, y14, y9, _, p1_4, wx.heap.size, rfl, hG.trans hg, f0, f1, f2, f3, fun h => let ⟨z1, z2, z3⟩ := f4 h; ⟨z1, z2, z3.gr hg⟩, fun _ => ⟨rfl, hG.below.size, by rw [show upd L 5 7 = false from l7]; exact hn⟩, f6, (fun h => absurd (show L 7 = true from h) (by rw [l7]; decide)), fun h _ => by have z := (f4 h).2.2.lt; omega⟩
      refine allOps_cons 6 ?_ ?_
      · refine keeps_free rfl ?_
        rintro L ac wx hL hd ⟨y11, y12, y13, y14, y9, y10, p1_4, p1_5, rfl, hG, f0, f1, f2, f3, f4, f5, f6, f7, g4_5⟩
        obtain ⟨e0, e1, e2, e3, e4, e5, e6, e7, e8, -⟩ := hd
        have lp : L 4 = true := e0 rfl
        have lx : L 1 = true := e1 rfl
        obtain ⟨h1, h2, h3⟩ := f4 lp
        have h4 := f1 lx
        rw [hL] at h3
        subst h1; subst h4
        refine wp_storeB rfl rfl rfl h3 ?_
        intro w1 hn hgx
        exact ⟨y11, _, y13, y14, _, y10, p1_4, p1_5, rfl, hgx.gr _ hG h2, f0, fun _ => rfl, f2, f3, fun _ => ⟨rfl, h2, hn⟩, fun h => let ⟨z1, z2, z3⟩ := f5 h; ⟨z1, z2, z3.grx hgx (Ne.symm (g4_5 lp h))⟩, fun _ => ⟨lx, lp⟩, f7, g4_5⟩
      refine allOps_cons 7 ?_ ?_
      · refine keeps_free rfl ?_
        rintro L ac wx hL hd ⟨y11, y12, y13, y14, y9, y10, p1_4, p1_5, rfl, hG, f0, f1, f2, f3, f4, f5, f6, f7, g4_5⟩
        obtain ⟨e0, e1, e2, e3, e4, e5, e6, e7, e8, e9, -⟩ := hd
        have lp : L 5 = true := e0 rfl
        have lx : L 3 = true := e1 rfl
        obtain ⟨h1, h2, h3⟩ := f5 lp
        have h4 := f3 lx
        rw [hL] at h3
        subst h1; subst h4
        refine wp_storeB rfl rfl rfl h3 ?_
        intro w1 hn hgx
        exact ⟨y11, y12, y13, _, y9, _, p1_4, p1_5, rfl, hgx.gr _ hG h2, f0, f1, f2, fun _ => rfl, fun h => let ⟨z1, z2, z3⟩ := f4 h; ⟨z1, z2, z3.grx hgx (g4_5 h lp)⟩, fun _ => ⟨rfl, h2, hn⟩, f6, fun _ => ⟨lx, lp⟩, g4_5⟩
      exact allOps_nil 8
    case fin =>
      rintro L ac wx hall ⟨y11, y12, y13, y14, y9, y10, p1_4, p1_5, rfl, hG, f0, f1, f2, f3, f4, f5, f6, f7, g4_5⟩
      have l0 : L 0 = true := hall 0 (by decide)
      have l1 : L 1 = true := hall 1 (by decide)
      have l2 : L 2 = true := hall 2 (by decide)
      have l3 : L 3 = true := hall 3 (by decide)
      have l4 : L 4 = true := hall 4 (by decide)
      have l5 : L 5 = true := hall 5 (by decide)
      have l6 : L 6 = true := hall 6 (by decide)
      have l7 : L 7 = true := hall 7 (by decide)
      obtain ⟨h4, k4, z4⟩ := f4 l4; rw [l6] at z4
      obtain ⟨h5, k5, z5⟩ := f5 l5; rw [l7] at z5
      refine hK2 _ _ (hJ _ _ ?_)
      (repeat apply Exists.intro)
      refine ⟨?rel1, rfl⟩
      exact ⟨p1_4, p1_5, h4, h5, z4, z5, g4_5 l4 l5, k4, k5, hG⟩
  case rest =>
    obtain ⟨p1_4, p1_5, rfl, rfl, zp1_4, zp1_5, np1_4_p1_5, zp1_4ge, zp1_5ge, hc1⟩ := hcut
    have hPA_1 := (HA).gr hc1
    have hPB_1 := (HB).gr hc1
    have hPR_1 := (HR).gr hc1
    have hF_1 := (HF).trans hc1
    have nPA_p1_4 : PA ≠ p1_4 := Nat.ne_of_lt (Nat.lt_of_lt_of_le HA.lt zp1_4ge)
    have nPB_p1_4 : PB ≠ p1_4 := Nat.ne_of_lt (Nat.lt_of_lt_of_le HB.lt zp1_4ge)
    have nPR_p1_4 : PR ≠ p1_4 := Nat.ne_of_lt (Nat.lt_of_lt_of_le HR.lt zp1_4ge)
    have frp1_4 := Nat.le_trans HF.below.size zp1_4ge
    have nPA_p1_5 : PA ≠ p1_5 := Nat.ne_of_lt (Nat.lt_of_lt_of_le HA.lt zp1_5ge)
    have nPB_p1_5 : PB ≠ p1_5 := Nat.ne_of_lt (Nat.lt_of_lt_of_le HB.lt zp1_5ge)
    have nPR_p1_5 : PR ≠ p1_5 := Nat.ne_of_lt (Nat.lt_of_lt_of_le HR.lt zp1_5ge)
    have frp1_5 := Nat.le_trans HF.below.size zp1_5ge
    go_upto_region 4 with fail
    refine wp_region_seqq (C := Gr wc) (Gr.refl _) ?_
    refine q_do (by rfl) ?_
    refine q_loadB rfl rfl (fun w h => (zp1_4).gr h) ?_
    refine q_do (by rfl) ?_
    refine q_call1 rfl rfl (fun w => by go_simp) (grc (fun w => k_none XA w) (by rw [nnB_of gxa])) ?_
    refine q_do (by rfl) ?_
    refine q_move (v := .bool false) rfl rfl ?_
    simp only [Act.put, List.setIfInBounds_toArray, List.set_cons_zero, List.set_cons_succ]
    refine q_do (by rfl) ?_
    refine q_loadB rfl rfl (fun w h => (zp1_5).gr h) ?_
    refine q_do (by rfl) ?_
    refine q_call1 rfl rfl (fun w => by go_simp) (grc (fun w => k_none YB w) (by rw [nnB_of gyb])) ?_
    refine q_do (by rfl) ?_
    refine q_pickF (v := .bool false) rfl rfl rfl ?_
    simp only [Act.put, List.setIfInBounds_toArray, List.set_cons_zero, List.set_cons_succ]
    intro wq2 hq2
    have hPA_2 := (hPA_1).gr hq2
    have hPB_2 := (hPB_1).gr hq2
    have hPR_2 := (hPR_1).gr hq2
    have hp1_4_2 := (zp1_4).gr hq2
    have hp1_5_2 := (zp1_5).gr hq2
    have hF_2 := (hF_1).trans hq2
    go_upto_region 8 with fail
    refine wp_region_sqn (C := Gr wq2) 5 (by kernel_rfl) (Gr.refl _) ?_
    refine q_do (by rfl) ?_
    refine q_move (v := .func (.func f) #[] #[]) rfl rfl ?_
    refine q_do (by rfl) ?_
    refine q_loadB rfl rfl (fun w h => (hp1_4_2).gr h) ?_
    refine q_do (by rfl) ?_
    refine q_loadB rfl rfl (fun w h => (hp1_5_2).gr h) ?_
    simp only [Act.put, List.setIfInBounds_toArray, List.set_cons_zero, List.set_cons_succ]
    refine q_do (by rfl) ?_
    refine q_callv2 rfl rfl rfl rfl hfn (grc (cf) (rfl)) ?_
    refine q_do (by rfl) ?_
    refine q_call2 rfl rfl rfl (fun w => by go_simp) (grc (cd) (rfl)) ?_
    simp only [Act.put, List.setIfInBounds_toArray, List.set_cons_zero, List.set_cons_succ]
    intro wq3 hq3
    have hPA_3 := (hPA_2).gr hq3
    have hPB_3 := (hPB_2).gr hq3
    have hPR_3 := (hPR_2).gr hq3
    have hp1_4_3 := (hp1_4_2).gr hq3
    have hp1_5_3 := (hp1_5_2).gr hq3
    have hF_3 := (hF_2).trans hq3
    refine seq_do ?_
    refine wp_storeB rfl rfl rfl (hPR_3) ?_
    intro ws4 hs4 gx4
    have hPA_4 := (hPA_3).grx gx4 nAR
    have hPB_4 := (hPB_3).grx gx4 nBR
    have hp1_4_4 := (hp1_4_3).grx gx4 (Ne.symm nPR_p1_4)
    have hp1_5_4 := (hp1_5_3).grx gx4 (Ne.symm nPR_p1_5)
    have hF_4 := gx4.gr _ (hF_3) hPR
    simp only [Act.put, List.setIfInBounds_toArray, List.set_cons_zero, List.set_cons_succ]
    refine seq_end ?_
    obtain ⟨r0, r1, r2, r3, r4, r5, r6, r7, r8, r9⟩ := cells_bv (hs4)
    go_wp2
    refine bodyPost_ret (by simp [results, Tryz.results65, go_sem, r0, r1, r2, r3, r4, r5, r6, r7, r8, r9]; try rfl) rfl ?_
    exact ⟨rfl, hF_4⟩
set_option maxHeartbeats 4000000 in
theorem n_shift {a b : Bd} {x y z : BitVec 64} {f : FuncId} {k : Int} (ga : Good a) (gb : Good b) (ka : Has a x) (kb : Has b y) (hfn : ∀ u v w, (callFunc f #[u, v]).run Tryz.prog w = .ok (.enter f #[u, v]) w) (h12 : (k == 12) = false) (h6 : k = 6 ∨ k = 7) (hD : ∀ {a b : Bd}, Good a → Good b → Has a (x &&& (1#64 <<< 32 - 1#64)) → Has b (y &&& (1#64 <<< 5 - 1#64)) → DeedS f a b (x &&& (1#64 <<< 32 - 1#64)) z) :
    ∃ c : Bd, Good c ∧ Has c (z &&& (1#64 <<< 32 - 1#64)) ∧ (a = constM x → b = constM y → c = constM (z &&& (1#64 <<< 32 - 1#64))) ∧ ∀ w, Calls Tryz.prog 65 #[.int .u8 k, .func (.func f) #[] #[], .agg (bv a), .agg (bv b)] w fun e w' => e = .returned (.agg (bv c)) ∧ Gr w w' := by
  obtain ⟨XA, gxa, kxa, pxa, cxa⟩ := k_low32 ga ka
  obtain ⟨YB, gyb, kyb, pyb, cyb⟩ := k_low32 gb kb
  obtain ⟨Y5, gy5, ky5, py5, cy5⟩ := k_five gb kb
  obtain ⟨C, gc, kc, pc, cf⟩ := hD gxa gy5 kxa ky5
  obtain ⟨DD, gd, kd, pd, cd⟩ := k_low32 gc kc
  refine ⟨DD, gd, kd, fun ea eb => pd (pc (pxa ea) (py5 eb)), fun w => ?_⟩
  have hfn := hfn (.agg (bv XA)) (.agg (bv Y5))
  have h67 : (k == 6) = true ∨ (k == 6) = false ∧ (k == 7) = true := by
    rcases h6 with rfl | rfl
    · exact .inl rfl
    · exact .inr ⟨rfl, rfl⟩
  clear h6
  rcases h67 with h6 | ⟨h6, h7⟩
  ·
      go_enter Tryz.func65, Tryz.ntmps65
      go_upto_region 1 with fail
      have HA : AtA (((w.alloc (.cells (bv a) 30)).alloc (.cells (bv b) 30)).alloc (.cells (bv zeroM) 30)) w.heap.size (bv a) 30 := ((AtA.newb _ rfl _ _).alloc _).alloc _
      have HB : AtA (((w.alloc (.cells (bv a) 30)).alloc (.cells (bv b) 30)).alloc (.cells (bv zeroM) 30)) (w.heap.size + 1) (bv b) 30 := (AtA.newb _ (by simp) _ _).alloc _
      have HR : AtA (((w.alloc (.cells (bv a) 30)).alloc (.cells (bv b) 30)).alloc (.cells (bv zeroM) 30)) (w.heap.size + 1 + 1) (bv zeroM) 30 := AtA.newb _ (by simp) _ _
      have HF : Gr w (((w.alloc (.cells (bv a) 30)).alloc (.cells (bv b) 30)).alloc (.cells (bv zeroM) 30)) := Gr.alloc (Gr.alloc (Gr.alloc (Gr.refl w) _ _) _ _) _ _
      have nAR : w.heap.size ≠ w.heap.size + 1 + 1 := by omega
      have nBR : w.heap.size + 1 ≠ w.heap.size + 1 + 1 := by omega
      have hPR : w.heap.size ≤ w.heap.size + 1 + 1 := by omega
      revert HA HB HR HF nAR nBR hPR
      rw [bv_zero]
      generalize (((w.alloc (.cells (bv a) 30)).alloc (.cells (bv b) 30)).alloc (.cells _ 30)) = W0
      generalize w.heap.size + 1 + 1 = PR
      generalize w.heap.size + 1 = PB
      generalize hw0 : w.heap.size = PA
      intro HA HB HR HF nAR nBR hPR
      rw [← hw0] at hPR
      rw [← bv_zero] at HR
      go_cut [9, 10] (fun c9 c10 wx => ∃ (p1_4 : Nat) (p1_5 : Nat) , c9 = .pointer (some ⟨p1_4, 0, none⟩) ∧ c10 = .pointer (some ⟨p1_5, 0, none⟩) ∧ AtA wx p1_4 (bv XA) 30 ∧ AtA wx p1_5 (bv YB) 30 ∧ p1_4 ≠ p1_5 ∧ W0.heap.size ≤ p1_4 ∧ W0.heap.size ≤ p1_5 ∧ Gr W0 wx)
      case first =>
        rename_i J K2 hJ hK2
        refine wp_region_inv (by kernel_rfl) (fun L ac wx => ∃ (y11 y12 y13 y14 y9 y10 : Value) (p1_4 : Nat) (p1_5 : Nat), ac = ⟨(.int .u8 k :: .func (.func f) #[] #[] :: .agg (bv a) :: .agg (bv b) :: undef :: undef :: .pointer (some ⟨PA, 0, none⟩) :: .pointer (some ⟨PB, 0, none⟩) :: .pointer (some ⟨PR, 0, none⟩) :: y9 :: y10 :: y11 :: y12 :: y13 :: y14 :: undef :: undef :: undef :: undef :: undef :: undef :: undef :: undef :: undef :: undef :: undef :: undef :: undef :: undef :: undef :: undef :: undef :: undef :: undef :: undef :: undef :: undef :: undef :: undef :: undef :: undef :: undef :: undef :: [] : List Value).toArray, []⟩ ∧ Gr W0 wx ∧ (L 0 = true → y11 = .agg (bv a)) ∧ (L 1 = true → y12 = .agg (bv XA)) ∧ (L 2 = true → y13 = .agg (bv b)) ∧ (L 3 = true → y14 = .agg (bv YB)) ∧ (L 4 = true → y9 = .pointer (some ⟨p1_4, 0, none⟩) ∧ W0.heap.size ≤ p1_4 ∧ AtA wx p1_4 (bv (sel (L 6) XA zeroM)) 30) ∧ (L 5 = true → y10 = .pointer (some ⟨p1_5, 0, none⟩) ∧ W0.heap.size ≤ p1_5 ∧ AtA wx p1_5 (bv (sel (L 7) YB zeroM)) 30) ∧ (L 6 = true → L 1 = true ∧ L 4 = true) ∧ (L 7 = true → L 3 = true ∧ L 5 = true) ∧ (L 4 = true → L 5 = true → p1_4 ≠ p1_5)) (by kernel_rfl) ?h0 ?step ?fin
        case h0 => exact ⟨undef, undef, undef, undef, undef, undef, 0, 0, rfl, Gr.drew (Gr.refl _), (fun h => by cases h), (fun h => by cases h), (fun h => by cases h), (fun h => by cases h), (fun h => by cases h), (fun h => by cases h), (fun h => by cases h), (fun h => by cases h), (fun h => by cases h)⟩
        case step =>
          refine allOps_cons 0 ?_ ?_
          · refine keeps_free rfl ?_
            rintro L ac wx hL hd ⟨y11, y12, y13, y14, y9, y10, p1_4, p1_5, rfl, hG, f0, f1, f2, f3, f4, f5, f6, f7, g4_5⟩
            refine wp_loadB rfl rfl ((HA).gr hG) ?_
            exact ⟨.agg (bv a), y12, y13, y14, y9, y10, p1_4, p1_5, rfl, hG, fun _ => rfl, f1, f2, f3, f4, f5, f6, f7, g4_5⟩
          refine allOps_cons 1 ?_ ?_
          · refine keeps_free rfl ?_
            rintro L ac wx hL hd ⟨y11, y12, y13, y14, y9, y10, p1_4, p1_5, rfl, hG, f0, f1, f2, f3, f4, f5, f6, f7, g4_5⟩
            obtain ⟨e0, -⟩ := hd
            have h0 := f0 (e0 rfl); subst h0
            have l6 : L 6 = false := by
              cases h : L 6 with
              | false => rfl
              | true => have := (f6 h).1; rw [hL] at this; cases this
            refine wp_call2 rfl rfl rfl (by go_simp) ?_
            refine (cxa _).mono ?_
            rintro e w1 ⟨rfl, hg⟩
            refine ⟨_, rfl, ?_⟩
            exact ⟨_, _, y13, y14, y9, y10, p1_4, p1_5, rfl, hG.trans hg, fun _ => rfl, fun _ => rfl, f2, f3, fun h => let ⟨z1, z2, z3⟩ := f4 h; ⟨z1, z2, by rw [l6] at z3; rw [show upd L 1 6 = false from l6]; exact z3.gr hg⟩, fun h => let ⟨z1, z2, z3⟩ := f5 h; ⟨z1, z2, z3.gr hg⟩, (fun h => absurd (show L 6 = true from h) (by rw [l6]; decide)), f7, g4_5⟩
          refine allOps_cons 2 ?_ ?_
          · refine keeps_free rfl ?_
            rintro L ac wx hL hd ⟨y11, y12, y13, y14, y9, y10, p1_4, p1_5, rfl, hG, f0, f1, f2, f3, f4, f5, f6, f7, g4_5⟩
            refine wp_loadB rfl rfl ((HB).gr hG) ?_
            exact ⟨y11, y12, .agg (bv b), y14, y9, y10, p1_4, p1_5, rfl, hG, f0, f1, fun _ => rfl, f3, f4, f5, f6, f7, g4_5⟩
          refine allOps_cons 3 ?_ ?_
          · refine keeps_free rfl ?_
            rintro L ac wx hL hd ⟨y11, y12, y13, y14, y9, y10, p1_4, p1_5, rfl, hG, f0, f1, f2, f3, f4, f5, f6, f7, g4_5⟩
            obtain ⟨e0, e1, -⟩ := hd
            have h2 := f2 (e0 rfl); subst h2
            have l7 : L 7 = false := by
              cases h : L 7 with
              | false => rfl
              | true => have := (f7 h).1; rw [hL] at this; cases this
            refine wp_call2 rfl rfl rfl (by go_simp) ?_
            refine (cyb _).mono ?_
            rintro e w1 ⟨rfl, hg⟩
            refine ⟨_, rfl, ?_⟩
            exact ⟨y11, y12, _, _, y9, y10, p1_4, p1_5, rfl, hG.trans hg, f0, f1, fun _ => rfl, fun _ => rfl, fun h => let ⟨z1, z2, z3⟩ := f4 h; ⟨z1, z2, z3.gr hg⟩, fun h => let ⟨z1, z2, z3⟩ := f5 h; ⟨z1, z2, by rw [l7] at z3; rw [show upd L 3 7 = false from l7]; exact z3.gr hg⟩, f6, (fun h => absurd (show L 7 = true from h) (by rw [l7]; decide)), g4_5⟩
          refine allOps_cons 4 ?_ ?_
          · refine keeps_free rfl ?_
            rintro L ac wx hL hd ⟨y11, y12, y13, y14, y9, y10, p1_4, p1_5, rfl, hG, f0, f1, f2, f3, f4, f5, f6, f7, g4_5⟩
            have l6 : L 6 = false := by
              cases h : L 6 with
              | false => rfl
              | true => have := (f6 h).2; rw [hL] at this; cases this
            refine wp_allocB rfl ?_
            intro w1 hn hg
            exact ⟨y11, y12, y13, y14, _, y10, wx.heap.size, p1_5, rfl, hG.trans hg, f0, f1, f2, f3, fun _ => ⟨rfl, hG.below.size, by rw [show upd L 4 6 = false from l6]; exact hn⟩, fun h => let ⟨z1, z2, z3⟩ := f5 h; ⟨z1, z2, z3.gr hg⟩, (fun h => absurd (show L 6 = true from h) (by rw [l6]; decide)), f7, fun _ h => by have z := (f5 h).2.2.lt; omega⟩
          refine allOps_cons 5 ?_ ?_
          · refine keeps_free rfl ?_
            rintro L ac wx hL hd ⟨y11, y12, y13, y14, y9, y10, p1_4, p1_5, rfl, hG, f0, f1, f2, f3, f4, f5, f6, f7, g4_5⟩
            have l7 : L 7 = false := by
              cases h : L 7 with
              | false => rfl
              | true => have := (f7 h).2; rw [hL] at this; cases this
            refine wp_allocB rfl ?_
            intro w1 hn hg
            exact ⟨y11, y12, y13, y14, y9, _, p1_4, wx.heap.size, rfl, hG.trans hg, f0, f1, f2, f3, fun h => let ⟨z1, z2, z3⟩ := f4 h; ⟨z1, z2, z3.gr hg⟩, fun _ => ⟨rfl, hG.below.size, by rw [show upd L 5 7 = false from l7]; exact hn⟩, f6, (fun h => absurd (show L 7 = true from h) (by rw [l7]; decide)), fun h _ => by have z := (f4 h).2.2.lt; omega⟩
          refine allOps_cons 6 ?_ ?_
          · refine keeps_free rfl ?_
            rintro L ac wx hL hd ⟨y11, y12, y13, y14, y9, y10, p1_4, p1_5, rfl, hG, f0, f1, f2, f3, f4, f5, f6, f7, g4_5⟩
            obtain ⟨e0, e1, e2, e3, e4, e5, e6, e7, e8, -⟩ := hd
            have lp : L 4 = true := e0 rfl
            have lx : L 1 = true := e1 rfl
            obtain ⟨h1, h2, h3⟩ := f4 lp
            have h4 := f1 lx
            rw [hL] at h3
            subst h1; subst h4
            refine wp_storeB rfl rfl rfl h3 ?_
            intro w1 hn hgx
            exact ⟨y11, _, y13, y14, _, y10, p1_4, p1_5, rfl, hgx.gr _ hG h2, f0, fun _ => rfl, f2, f3, fun _ => ⟨rfl, h2, hn⟩, fun h => let ⟨z1, z2, z3⟩ := f5 h; ⟨z1, z2, z3.grx hgx (Ne.symm (g4_5 lp h))⟩, fun _ => ⟨lx, lp⟩, f7, g4_5⟩
          refine allOps_cons 7 ?_ ?_
          · refine keeps_free rfl ?_
            rintro L ac wx hL hd ⟨y11, y12, y13, y14, y9, y10, p1_4, p1_5, rfl, hG, f0, f1, f2, f3, f4, f5, f6, f7, g4_5⟩
            obtain ⟨e0, e1, e2, e3, e4, e5, e6, e7, e8, e9, -⟩ := hd
            have lp : L 5 = true := e0 rfl
            have lx : L 3 = true := e1 rfl
            obtain ⟨h1, h2, h3⟩ := f5 lp
            have h4 := f3 lx
            rw [hL] at h3
            subst h1; subst h4
            refine wp_storeB rfl rfl rfl h3 ?_
            intro w1 hn hgx
            exact ⟨y11, y12, y13, _, y9, _, p1_4, p1_5, rfl, hgx.gr _ hG h2, f0, f1, f2, fun _ => rfl, fun h => let ⟨z1, z2, z3⟩ := f4 h; ⟨z1, z2, z3.grx hgx (g4_5 h lp)⟩, fun _ => ⟨rfl, h2, hn⟩, f6, fun _ => ⟨lx, lp⟩, g4_5⟩
          exact allOps_nil 8
        case fin =>
          rintro L ac wx hall ⟨y11, y12, y13, y14, y9, y10, p1_4, p1_5, rfl, hG, f0, f1, f2, f3, f4, f5, f6, f7, g4_5⟩
          have l0 : L 0 = true := hall 0 (by decide)
          have l1 : L 1 = true := hall 1 (by decide)
          have l2 : L 2 = true := hall 2 (by decide)
          have l3 : L 3 = true := hall 3 (by decide)
          have l4 : L 4 = true := hall 4 (by decide)
          have l5 : L 5 = true := hall 5 (by decide)
          have l6 : L 6 = true := hall 6 (by decide)
          have l7 : L 7 = true := hall 7 (by decide)
          obtain ⟨h4, k4, z4⟩ := f4 l4; rw [l6] at z4
          obtain ⟨h5, k5, z5⟩ := f5 l5; rw [l7] at z5
          refine hK2 _ _ (hJ _ _ ?_)
          (repeat apply Exists.intro)
          refine ⟨?rel1, rfl⟩
          exact ⟨p1_4, p1_5, h4, h5, z4, z5, g4_5 l4 l5, k4, k5, hG⟩
      case rest =>
        obtain ⟨p1_4, p1_5, rfl, rfl, zp1_4, zp1_5, np1_4_p1_5, zp1_4ge, zp1_5ge, hc1⟩ := hcut
        have hPA_1 := (HA).gr hc1
        have hPB_1 := (HB).gr hc1
        have hPR_1 := (HR).gr hc1
        have hF_1 := (HF).trans hc1
        have nPA_p1_4 : PA ≠ p1_4 := Nat.ne_of_lt (Nat.lt_of_lt_of_le HA.lt zp1_4ge)
        have nPB_p1_4 : PB ≠ p1_4 := Nat.ne_of_lt (Nat.lt_of_lt_of_le HB.lt zp1_4ge)
        have nPR_p1_4 : PR ≠ p1_4 := Nat.ne_of_lt (Nat.lt_of_lt_of_le HR.lt zp1_4ge)
        have frp1_4 := Nat.le_trans HF.below.size zp1_4ge
        have nPA_p1_5 : PA ≠ p1_5 := Nat.ne_of_lt (Nat.lt_of_lt_of_le HA.lt zp1_5ge)
        have nPB_p1_5 : PB ≠ p1_5 := Nat.ne_of_lt (Nat.lt_of_lt_of_le HB.lt zp1_5ge)
        have nPR_p1_5 : PR ≠ p1_5 := Nat.ne_of_lt (Nat.lt_of_lt_of_le HR.lt zp1_5ge)
        have frp1_5 := Nat.le_trans HF.below.size zp1_5ge
        go_upto_region 4 with fail
        refine wp_region_seqq (C := Gr wc) (Gr.refl _) ?_
        refine q_do (by rfl) ?_
        refine q_loadB rfl rfl (fun w h => (zp1_4).gr h) ?_
        refine q_do (by rfl) ?_
        refine q_call1 rfl rfl (fun w => by go_simp) (grc (fun w => k_none XA w) (by rw [nnB_of gxa])) ?_
        refine q_do (by rfl) ?_
        refine q_move (v := .bool false) rfl rfl ?_
        simp only [Act.put, List.setIfInBounds_toArray, List.set_cons_zero, List.set_cons_succ]
        refine q_do (by rfl) ?_
        refine q_loadB rfl rfl (fun w h => (zp1_5).gr h) ?_
        refine q_do (by rfl) ?_
        refine q_call1 rfl rfl (fun w => by go_simp) (grc (fun w => k_none YB w) (by rw [nnB_of gyb])) ?_
        refine q_do (by rfl) ?_
        refine q_pickF (v := .bool false) rfl rfl rfl ?_
        simp only [Act.put, List.setIfInBounds_toArray, List.set_cons_zero, List.set_cons_succ]
        intro wq2 hq2
        have hPA_2 := (hPA_1).gr hq2
        have hPB_2 := (hPB_1).gr hq2
        have hPR_2 := (hPR_1).gr hq2
        have hp1_4_2 := (zp1_4).gr hq2
        have hp1_5_2 := (zp1_5).gr hq2
        have hF_2 := (hF_1).trans hq2
        go_upto_region 7 with fail
        refine wp_region_seqW (by kernel_rfl) ?_
        refine seq_do ?_
        refine wp_loadB rfl rfl (hPB_2) ?_
        refine seq_do ?_
        refine wp_call1 rfl rfl (by go_simp) ?_
        refine ((cy5) _).mono ?_
        rintro e wk3 ⟨rfl, hk3⟩
        refine ⟨_, rfl, ?_⟩
        have hPA_3 := (hPA_2).gr hk3
        have hPB_3 := (hPB_2).gr hk3
        have hPR_3 := (hPR_2).gr hk3
        have hp1_4_3 := (hp1_4_2).gr hk3
        have hp1_5_3 := (hp1_5_2).gr hk3
        have hF_3 := (hF_2).trans hk3
        refine seq_do ?_
        refine wp_storeB rfl rfl rfl (hp1_5_3) ?_
        intro ws4 hs4 gx4
        have hPA_4 := (hPA_3).grx gx4 nPA_p1_5
        have hPB_4 := (hPB_3).grx gx4 nPB_p1_5
        have hPR_4 := (hPR_3).grx gx4 nPR_p1_5
        have hp1_4_4 := (hp1_4_3).grx gx4 np1_4_p1_5
        have hF_4 := gx4.gr _ (hF_3) frp1_5
        simp only [Act.put, List.setIfInBounds_toArray, List.set_cons_zero, List.set_cons_succ]
        refine seq_end ?_
        go_upto_region 8 with fail
        refine wp_region_sqn (C := Gr ws4) 5 (by kernel_rfl) (Gr.refl _) ?_
        refine q_do (by rfl) ?_
        refine q_move (v := .func (.func f) #[] #[]) rfl rfl ?_
        refine q_do (by rfl) ?_
        refine q_loadB rfl rfl (fun w h => (hp1_4_4).gr h) ?_
        refine q_do (by rfl) ?_
        refine q_loadB rfl rfl (fun w h => (hs4).gr h) ?_
        simp only [Act.put, List.setIfInBounds_toArray, List.set_cons_zero, List.set_cons_succ]
        refine q_do (by rfl) ?_
        refine q_callv2 rfl rfl rfl rfl hfn (grc (cf) (rfl)) ?_
        refine q_do (by rfl) ?_
        refine q_call2 rfl rfl rfl (fun w => by go_simp) (grc (cd) (rfl)) ?_
        simp only [Act.put, List.setIfInBounds_toArray, List.set_cons_zero, List.set_cons_succ]
        intro wq5 hq5
        have hPA_5 := (hPA_4).gr hq5
        have hPB_5 := (hPB_4).gr hq5
        have hPR_5 := (hPR_4).gr hq5
        have hp1_4_5 := (hp1_4_4).gr hq5
        have hp1_5_5 := (hs4).gr hq5
        have hF_5 := (hF_4).trans hq5
        refine seq_do ?_
        refine wp_storeB rfl rfl rfl (hPR_5) ?_
        intro ws6 hs6 gx6
        have hPA_6 := (hPA_5).grx gx6 nAR
        have hPB_6 := (hPB_5).grx gx6 nBR
        have hp1_4_6 := (hp1_4_5).grx gx6 (Ne.symm nPR_p1_4)
        have hp1_5_6 := (hp1_5_5).grx gx6 (Ne.symm nPR_p1_5)
        have hF_6 := gx6.gr _ (hF_5) hPR
        simp only [Act.put, List.setIfInBounds_toArray, List.set_cons_zero, List.set_cons_succ]
        refine seq_end ?_
        obtain ⟨r0, r1, r2, r3, r4, r5, r6, r7, r8, r9⟩ := cells_bv (hs6)
        go_wp2
        refine bodyPost_ret (by simp [results, Tryz.results65, go_sem, r0, r1, r2, r3, r4, r5, r6, r7, r8, r9]; try rfl) rfl ?_
        exact ⟨rfl, hF_6⟩
  ·
      go_enter Tryz.func65, Tryz.ntmps65
      go_upto_region 1 with fail
      have HA : AtA (((w.alloc (.cells (bv a) 30)).alloc (.cells (bv b) 30)).alloc (.cells (bv zeroM) 30)) w.heap.size (bv a) 30 := ((AtA.newb _ rfl _ _).alloc _).alloc _
      have HB : AtA (((w.alloc (.cells (bv a) 30)).alloc (.cells (bv b) 30)).alloc (.cells (bv zeroM) 30)) (w.heap.size + 1) (bv b) 30 := (AtA.newb _ (by simp) _ _).alloc _
      have HR : AtA (((w.alloc (.cells (bv a) 30)).alloc (.cells (bv b) 30)).alloc (.cells (bv zeroM) 30)) (w.heap.size + 1 + 1) (bv zeroM) 30 := AtA.newb _ (by simp) _ _
      have HF : Gr w (((w.alloc (.cells (bv a) 30)).alloc (.cells (bv b) 30)).alloc (.cells (bv zeroM) 30)) := Gr.alloc (Gr.alloc (Gr.alloc (Gr.refl w) _ _) _ _) _ _
      have nAR : w.heap.size ≠ w.heap.size + 1 + 1 := by omega
      have nBR : w.heap.size + 1 ≠ w.heap.size + 1 + 1 := by omega
      have hPR : w.heap.size ≤ w.heap.size + 1 + 1 := by omega
      revert HA HB HR HF nAR nBR hPR
      rw [bv_zero]
      generalize (((w.alloc (.cells (bv a) 30)).alloc (.cells (bv b) 30)).alloc (.cells _ 30)) = W0
      generalize w.heap.size + 1 + 1 = PR
      generalize w.heap.size + 1 = PB
      generalize hw0 : w.heap.size = PA
      intro HA HB HR HF nAR nBR hPR
      rw [← hw0] at hPR
      rw [← bv_zero] at HR
      go_cut [9, 10] (fun c9 c10 wx => ∃ (p1_4 : Nat) (p1_5 : Nat) , c9 = .pointer (some ⟨p1_4, 0, none⟩) ∧ c10 = .pointer (some ⟨p1_5, 0, none⟩) ∧ AtA wx p1_4 (bv XA) 30 ∧ AtA wx p1_5 (bv YB) 30 ∧ p1_4 ≠ p1_5 ∧ W0.heap.size ≤ p1_4 ∧ W0.heap.size ≤ p1_5 ∧ Gr W0 wx)
      case first =>
        rename_i J K2 hJ hK2
        refine wp_region_inv (by kernel_rfl) (fun L ac wx => ∃ (y11 y12 y13 y14 y9 y10 : Value) (p1_4 : Nat) (p1_5 : Nat), ac = ⟨(.int .u8 k :: .func (.func f) #[] #[] :: .agg (bv a) :: .agg (bv b) :: undef :: undef :: .pointer (some ⟨PA, 0, none⟩) :: .pointer (some ⟨PB, 0, none⟩) :: .pointer (some ⟨PR, 0, none⟩) :: y9 :: y10 :: y11 :: y12 :: y13 :: y14 :: undef :: undef :: undef :: undef :: undef :: undef :: undef :: undef :: undef :: undef :: undef :: undef :: undef :: undef :: undef :: undef :: undef :: undef :: undef :: undef :: undef :: undef :: undef :: undef :: undef :: undef :: undef :: undef :: [] : List Value).toArray, []⟩ ∧ Gr W0 wx ∧ (L 0 = true → y11 = .agg (bv a)) ∧ (L 1 = true → y12 = .agg (bv XA)) ∧ (L 2 = true → y13 = .agg (bv b)) ∧ (L 3 = true → y14 = .agg (bv YB)) ∧ (L 4 = true → y9 = .pointer (some ⟨p1_4, 0, none⟩) ∧ W0.heap.size ≤ p1_4 ∧ AtA wx p1_4 (bv (sel (L 6) XA zeroM)) 30) ∧ (L 5 = true → y10 = .pointer (some ⟨p1_5, 0, none⟩) ∧ W0.heap.size ≤ p1_5 ∧ AtA wx p1_5 (bv (sel (L 7) YB zeroM)) 30) ∧ (L 6 = true → L 1 = true ∧ L 4 = true) ∧ (L 7 = true → L 3 = true ∧ L 5 = true) ∧ (L 4 = true → L 5 = true → p1_4 ≠ p1_5)) (by kernel_rfl) ?h0 ?step ?fin
        case h0 => exact ⟨undef, undef, undef, undef, undef, undef, 0, 0, rfl, Gr.drew (Gr.refl _), (fun h => by cases h), (fun h => by cases h), (fun h => by cases h), (fun h => by cases h), (fun h => by cases h), (fun h => by cases h), (fun h => by cases h), (fun h => by cases h), (fun h => by cases h)⟩
        case step =>
          refine allOps_cons 0 ?_ ?_
          · refine keeps_free rfl ?_
            rintro L ac wx hL hd ⟨y11, y12, y13, y14, y9, y10, p1_4, p1_5, rfl, hG, f0, f1, f2, f3, f4, f5, f6, f7, g4_5⟩
            refine wp_loadB rfl rfl ((HA).gr hG) ?_
            exact ⟨.agg (bv a), y12, y13, y14, y9, y10, p1_4, p1_5, rfl, hG, fun _ => rfl, f1, f2, f3, f4, f5, f6, f7, g4_5⟩
          refine allOps_cons 1 ?_ ?_
          · refine keeps_free rfl ?_
            rintro L ac wx hL hd ⟨y11, y12, y13, y14, y9, y10, p1_4, p1_5, rfl, hG, f0, f1, f2, f3, f4, f5, f6, f7, g4_5⟩
            obtain ⟨e0, -⟩ := hd
            have h0 := f0 (e0 rfl); subst h0
            have l6 : L 6 = false := by
              cases h : L 6 with
              | false => rfl
              | true => have := (f6 h).1; rw [hL] at this; cases this
            refine wp_call2 rfl rfl rfl (by go_simp) ?_
            refine (cxa _).mono ?_
            rintro e w1 ⟨rfl, hg⟩
            refine ⟨_, rfl, ?_⟩
            exact ⟨_, _, y13, y14, y9, y10, p1_4, p1_5, rfl, hG.trans hg, fun _ => rfl, fun _ => rfl, f2, f3, fun h => let ⟨z1, z2, z3⟩ := f4 h; ⟨z1, z2, by rw [l6] at z3; rw [show upd L 1 6 = false from l6]; exact z3.gr hg⟩, fun h => let ⟨z1, z2, z3⟩ := f5 h; ⟨z1, z2, z3.gr hg⟩, (fun h => absurd (show L 6 = true from h) (by rw [l6]; decide)), f7, g4_5⟩
          refine allOps_cons 2 ?_ ?_
          · refine keeps_free rfl ?_
            rintro L ac wx hL hd ⟨y11, y12, y13, y14, y9, y10, p1_4, p1_5, rfl, hG, f0, f1, f2, f3, f4, f5, f6, f7, g4_5⟩
            refine wp_loadB rfl rfl ((HB).gr hG) ?_
            exact ⟨y11, y12, .agg (bv b), y14, y9, y10, p1_4, p1_5, rfl, hG, f0, f1, fun _ => rfl, f3, f4, f5, f6, f7, g4_5⟩
          refine allOps_cons 3 ?_ ?_
          · refine keeps_free rfl ?_
            rintro L ac wx hL hd ⟨y11, y12, y13, y14, y9, y10, p1_4, p1_5, rfl, hG, f0, f1, f2, f3, f4, f5, f6, f7, g4_5⟩
            obtain ⟨e0, e1, -⟩ := hd
            have h2 := f2 (e0 rfl); subst h2
            have l7 : L 7 = false := by
              cases h : L 7 with
              | false => rfl
              | true => have := (f7 h).1; rw [hL] at this; cases this
            refine wp_call2 rfl rfl rfl (by go_simp) ?_
            refine (cyb _).mono ?_
            rintro e w1 ⟨rfl, hg⟩
            refine ⟨_, rfl, ?_⟩
            exact ⟨y11, y12, _, _, y9, y10, p1_4, p1_5, rfl, hG.trans hg, f0, f1, fun _ => rfl, fun _ => rfl, fun h => let ⟨z1, z2, z3⟩ := f4 h; ⟨z1, z2, z3.gr hg⟩, fun h => let ⟨z1, z2, z3⟩ := f5 h; ⟨z1, z2, by rw [l7] at z3; rw [show upd L 3 7 = false from l7]; exact z3.gr hg⟩, f6, (fun h => absurd (show L 7 = true from h) (by rw [l7]; decide)), g4_5⟩
          refine allOps_cons 4 ?_ ?_
          · refine keeps_free rfl ?_
            rintro L ac wx hL hd ⟨y11, y12, y13, y14, y9, y10, p1_4, p1_5, rfl, hG, f0, f1, f2, f3, f4, f5, f6, f7, g4_5⟩
            have l6 : L 6 = false := by
              cases h : L 6 with
              | false => rfl
              | true => have := (f6 h).2; rw [hL] at this; cases this
            refine wp_allocB rfl ?_
            intro w1 hn hg
            exact ⟨y11, y12, y13, y14, _, y10, wx.heap.size, p1_5, rfl, hG.trans hg, f0, f1, f2, f3, fun _ => ⟨rfl, hG.below.size, by rw [show upd L 4 6 = false from l6]; exact hn⟩, fun h => let ⟨z1, z2, z3⟩ := f5 h; ⟨z1, z2, z3.gr hg⟩, (fun h => absurd (show L 6 = true from h) (by rw [l6]; decide)), f7, fun _ h => by have z := (f5 h).2.2.lt; omega⟩
          refine allOps_cons 5 ?_ ?_
          · refine keeps_free rfl ?_
            rintro L ac wx hL hd ⟨y11, y12, y13, y14, y9, y10, p1_4, p1_5, rfl, hG, f0, f1, f2, f3, f4, f5, f6, f7, g4_5⟩
            have l7 : L 7 = false := by
              cases h : L 7 with
              | false => rfl
              | true => have := (f7 h).2; rw [hL] at this; cases this
            refine wp_allocB rfl ?_
            intro w1 hn hg
            exact ⟨y11, y12, y13, y14, y9, _, p1_4, wx.heap.size, rfl, hG.trans hg, f0, f1, f2, f3, fun h => let ⟨z1, z2, z3⟩ := f4 h; ⟨z1, z2, z3.gr hg⟩, fun _ => ⟨rfl, hG.below.size, by rw [show upd L 5 7 = false from l7]; exact hn⟩, f6, (fun h => absurd (show L 7 = true from h) (by rw [l7]; decide)), fun h _ => by have z := (f4 h).2.2.lt; omega⟩
          refine allOps_cons 6 ?_ ?_
          · refine keeps_free rfl ?_
            rintro L ac wx hL hd ⟨y11, y12, y13, y14, y9, y10, p1_4, p1_5, rfl, hG, f0, f1, f2, f3, f4, f5, f6, f7, g4_5⟩
            obtain ⟨e0, e1, e2, e3, e4, e5, e6, e7, e8, -⟩ := hd
            have lp : L 4 = true := e0 rfl
            have lx : L 1 = true := e1 rfl
            obtain ⟨h1, h2, h3⟩ := f4 lp
            have h4 := f1 lx
            rw [hL] at h3
            subst h1; subst h4
            refine wp_storeB rfl rfl rfl h3 ?_
            intro w1 hn hgx
            exact ⟨y11, _, y13, y14, _, y10, p1_4, p1_5, rfl, hgx.gr _ hG h2, f0, fun _ => rfl, f2, f3, fun _ => ⟨rfl, h2, hn⟩, fun h => let ⟨z1, z2, z3⟩ := f5 h; ⟨z1, z2, z3.grx hgx (Ne.symm (g4_5 lp h))⟩, fun _ => ⟨lx, lp⟩, f7, g4_5⟩
          refine allOps_cons 7 ?_ ?_
          · refine keeps_free rfl ?_
            rintro L ac wx hL hd ⟨y11, y12, y13, y14, y9, y10, p1_4, p1_5, rfl, hG, f0, f1, f2, f3, f4, f5, f6, f7, g4_5⟩
            obtain ⟨e0, e1, e2, e3, e4, e5, e6, e7, e8, e9, -⟩ := hd
            have lp : L 5 = true := e0 rfl
            have lx : L 3 = true := e1 rfl
            obtain ⟨h1, h2, h3⟩ := f5 lp
            have h4 := f3 lx
            rw [hL] at h3
            subst h1; subst h4
            refine wp_storeB rfl rfl rfl h3 ?_
            intro w1 hn hgx
            exact ⟨y11, y12, y13, _, y9, _, p1_4, p1_5, rfl, hgx.gr _ hG h2, f0, f1, f2, fun _ => rfl, fun h => let ⟨z1, z2, z3⟩ := f4 h; ⟨z1, z2, z3.grx hgx (g4_5 h lp)⟩, fun _ => ⟨rfl, h2, hn⟩, f6, fun _ => ⟨lx, lp⟩, g4_5⟩
          exact allOps_nil 8
        case fin =>
          rintro L ac wx hall ⟨y11, y12, y13, y14, y9, y10, p1_4, p1_5, rfl, hG, f0, f1, f2, f3, f4, f5, f6, f7, g4_5⟩
          have l0 : L 0 = true := hall 0 (by decide)
          have l1 : L 1 = true := hall 1 (by decide)
          have l2 : L 2 = true := hall 2 (by decide)
          have l3 : L 3 = true := hall 3 (by decide)
          have l4 : L 4 = true := hall 4 (by decide)
          have l5 : L 5 = true := hall 5 (by decide)
          have l6 : L 6 = true := hall 6 (by decide)
          have l7 : L 7 = true := hall 7 (by decide)
          obtain ⟨h4, k4, z4⟩ := f4 l4; rw [l6] at z4
          obtain ⟨h5, k5, z5⟩ := f5 l5; rw [l7] at z5
          refine hK2 _ _ (hJ _ _ ?_)
          (repeat apply Exists.intro)
          refine ⟨?rel1b, rfl⟩
          exact ⟨p1_4, p1_5, h4, h5, z4, z5, g4_5 l4 l5, k4, k5, hG⟩
      case rest =>
        obtain ⟨p1_4, p1_5, rfl, rfl, zp1_4, zp1_5, np1_4_p1_5, zp1_4ge, zp1_5ge, hc1⟩ := hcut
        have hPA_1 := (HA).gr hc1
        have hPB_1 := (HB).gr hc1
        have hPR_1 := (HR).gr hc1
        have hF_1 := (HF).trans hc1
        have nPA_p1_4 : PA ≠ p1_4 := Nat.ne_of_lt (Nat.lt_of_lt_of_le HA.lt zp1_4ge)
        have nPB_p1_4 : PB ≠ p1_4 := Nat.ne_of_lt (Nat.lt_of_lt_of_le HB.lt zp1_4ge)
        have nPR_p1_4 : PR ≠ p1_4 := Nat.ne_of_lt (Nat.lt_of_lt_of_le HR.lt zp1_4ge)
        have frp1_4 := Nat.le_trans HF.below.size zp1_4ge
        have nPA_p1_5 : PA ≠ p1_5 := Nat.ne_of_lt (Nat.lt_of_lt_of_le HA.lt zp1_5ge)
        have nPB_p1_5 : PB ≠ p1_5 := Nat.ne_of_lt (Nat.lt_of_lt_of_le HB.lt zp1_5ge)
        have nPR_p1_5 : PR ≠ p1_5 := Nat.ne_of_lt (Nat.lt_of_lt_of_le HR.lt zp1_5ge)
        have frp1_5 := Nat.le_trans HF.below.size zp1_5ge
        go_upto_region 4 with fail
        refine wp_region_seqq (C := Gr wc) (Gr.refl _) ?_
        refine q_do (by rfl) ?_
        refine q_loadB rfl rfl (fun w h => (zp1_4).gr h) ?_
        refine q_do (by rfl) ?_
        refine q_call1 rfl rfl (fun w => by go_simp) (grc (fun w => k_none XA w) (by rw [nnB_of gxa])) ?_
        refine q_do (by rfl) ?_
        refine q_move (v := .bool false) rfl rfl ?_
        simp only [Act.put, List.setIfInBounds_toArray, List.set_cons_zero, List.set_cons_succ]
        refine q_do (by rfl) ?_
        refine q_loadB rfl rfl (fun w h => (zp1_5).gr h) ?_
        refine q_do (by rfl) ?_
        refine q_call1 rfl rfl (fun w => by go_simp) (grc (fun w => k_none YB w) (by rw [nnB_of gyb])) ?_
        refine q_do (by rfl) ?_
        refine q_pickF (v := .bool false) rfl rfl rfl ?_
        simp only [Act.put, List.setIfInBounds_toArray, List.set_cons_zero, List.set_cons_succ]
        intro wq2 hq2
        have hPA_2 := (hPA_1).gr hq2
        have hPB_2 := (hPB_1).gr hq2
        have hPR_2 := (hPR_1).gr hq2
        have hp1_4_2 := (zp1_4).gr hq2
        have hp1_5_2 := (zp1_5).gr hq2
        have hF_2 := (hF_1).trans hq2
        go_upto_region 7 with fail
        refine wp_region_seqW (by kernel_rfl) ?_
        refine seq_do ?_
        refine wp_loadB rfl rfl (hPB_2) ?_
        refine seq_do ?_
        refine wp_call1 rfl rfl (by go_simp) ?_
        refine ((cy5) _).mono ?_
        rintro e wk3 ⟨rfl, hk3⟩
        refine ⟨_, rfl, ?_⟩
        have hPA_3 := (hPA_2).gr hk3
        have hPB_3 := (hPB_2).gr hk3
        have hPR_3 := (hPR_2).gr hk3
        have hp1_4_3 := (hp1_4_2).gr hk3
        have hp1_5_3 := (hp1_5_2).gr hk3
        have hF_3 := (hF_2).trans hk3
        refine seq_do ?_
        refine wp_storeB rfl rfl rfl (hp1_5_3) ?_
        intro ws4 hs4 gx4
        have hPA_4 := (hPA_3).grx gx4 nPA_p1_5
        have hPB_4 := (hPB_3).grx gx4 nPB_p1_5
        have hPR_4 := (hPR_3).grx gx4 nPR_p1_5
        have hp1_4_4 := (hp1_4_3).grx gx4 np1_4_p1_5
        have hF_4 := gx4.gr _ (hF_3) frp1_5
        simp only [Act.put, List.setIfInBounds_toArray, List.set_cons_zero, List.set_cons_succ]
        refine seq_end ?_
        go_upto_region 8 with fail
        refine wp_region_sqn (C := Gr ws4) 5 (by kernel_rfl) (Gr.refl _) ?_
        refine q_do (by rfl) ?_
        refine q_move (v := .func (.func f) #[] #[]) rfl rfl ?_
        refine q_do (by rfl) ?_
        refine q_loadB rfl rfl (fun w h => (hp1_4_4).gr h) ?_
        refine q_do (by rfl) ?_
        refine q_loadB rfl rfl (fun w h => (hs4).gr h) ?_
        simp only [Act.put, List.setIfInBounds_toArray, List.set_cons_zero, List.set_cons_succ]
        refine q_do (by rfl) ?_
        refine q_callv2 rfl rfl rfl rfl hfn (grc (cf) (rfl)) ?_
        refine q_do (by rfl) ?_
        refine q_call2 rfl rfl rfl (fun w => by go_simp) (grc (cd) (rfl)) ?_
        simp only [Act.put, List.setIfInBounds_toArray, List.set_cons_zero, List.set_cons_succ]
        intro wq5 hq5
        have hPA_5 := (hPA_4).gr hq5
        have hPB_5 := (hPB_4).gr hq5
        have hPR_5 := (hPR_4).gr hq5
        have hp1_4_5 := (hp1_4_4).gr hq5
        have hp1_5_5 := (hs4).gr hq5
        have hF_5 := (hF_4).trans hq5
        refine seq_do ?_
        refine wp_storeB rfl rfl rfl (hPR_5) ?_
        intro ws6 hs6 gx6
        have hPA_6 := (hPA_5).grx gx6 nAR
        have hPB_6 := (hPB_5).grx gx6 nBR
        have hp1_4_6 := (hp1_4_5).grx gx6 (Ne.symm nPR_p1_4)
        have hp1_5_6 := (hp1_5_5).grx gx6 (Ne.symm nPR_p1_5)
        have hF_6 := gx6.gr _ (hF_5) hPR
        simp only [Act.put, List.setIfInBounds_toArray, List.set_cons_zero, List.set_cons_succ]
        refine seq_end ?_
        obtain ⟨r0, r1, r2, r3, r4, r5, r6, r7, r8, r9⟩ := cells_bv (hs6)
        go_wp2
        refine bodyPost_ret (by simp [results, Tryz.results65, go_sem, r0, r1, r2, r3, r4, r5, r6, r7, r8, r9]; try rfl) rfl ?_
        exact ⟨rfl, hF_6⟩
set_option maxHeartbeats 4000000 in
theorem n_arsh {a b : Bd} {x y z : BitVec 64} {f : FuncId} (ga : Good a) (gb : Good b) (ka : Has a x) (kb : Has b y) (hfn : ∀ u v w, (callFunc f #[u, v]).run Tryz.prog w = .ok (.enter f #[u, v]) w) (hD : ∀ {a b : Bd}, Good a → Good b → Has a ((x <<< 32).sshiftRight 32) → Has b (y &&& (1#64 <<< 5 - 1#64)) → DeedS f a b ((x <<< 32).sshiftRight 32) z) :
    ∃ c : Bd, Good c ∧ Has c (z &&& (1#64 <<< 32 - 1#64)) ∧ (a = constM x → b = constM y → c = constM (z &&& (1#64 <<< 32 - 1#64))) ∧ ∀ w, Calls Tryz.prog 65 #[.int .u8 12, .func (.func f) #[] #[], .agg (bv a), .agg (bv b)] w fun e w' => e = .returned (.agg (bv c)) ∧ Gr w w' := by
  obtain ⟨XA, gxa, kxa, pxa, cxa⟩ := k_low32 ga ka
  obtain ⟨YB, gyb, kyb, pyb, cyb⟩ := k_low32 gb kb
  obtain ⟨SX, gsx, ksx, psx, csx⟩ := k_slow ga ka
  obtain ⟨Y5, gy5, ky5, py5, cy5⟩ := k_five gb kb
  obtain ⟨C, gc, kc, pc, cf⟩ := hD gsx gy5 ksx ky5
  obtain ⟨DD, gd, kd, pd, cd⟩ := k_low32 gc kc
  refine ⟨DD, gd, kd, fun ea eb => pd (pc (psx ea) (py5 eb)), fun w => ?_⟩
  have hfn := hfn (.agg (bv SX)) (.agg (bv Y5))
  go_enter Tryz.func65, Tryz.ntmps65
  go_upto_region 1 with fail
  have HA : AtA (((w.alloc (.cells (bv a) 30)).alloc (.cells (bv b) 30)).alloc (.cells (bv zeroM) 30)) w.heap.size (bv a) 30 := ((AtA.newb _ rfl _ _).alloc _).alloc _
  have HB : AtA (((w.alloc (.cells (bv a) 30)).alloc (.cells (bv b) 30)).alloc (.cells (bv zeroM) 30)) (w.heap.size + 1) (bv b) 30 := (AtA.newb _ (by simp) _ _).alloc _
  have HR : AtA (((w.alloc (.cells (bv a) 30)).alloc (.cells (bv b) 30)).alloc (.cells (bv zeroM) 30)) (w.heap.size + 1 + 1) (bv zeroM) 30 := AtA.newb _ (by simp) _ _
  have HF : Gr w (((w.alloc (.cells (bv a) 30)).alloc (.cells (bv b) 30)).alloc (.cells (bv zeroM) 30)) := Gr.alloc (Gr.alloc (Gr.alloc (Gr.refl w) _ _) _ _) _ _
  have nAR : w.heap.size ≠ w.heap.size + 1 + 1 := by omega
  have nBR : w.heap.size + 1 ≠ w.heap.size + 1 + 1 := by omega
  have hPR : w.heap.size ≤ w.heap.size + 1 + 1 := by omega
  revert HA HB HR HF nAR nBR hPR
  rw [bv_zero]
  generalize (((w.alloc (.cells (bv a) 30)).alloc (.cells (bv b) 30)).alloc (.cells _ 30)) = W0
  generalize w.heap.size + 1 + 1 = PR
  generalize w.heap.size + 1 = PB
  generalize hw0 : w.heap.size = PA
  intro HA HB HR HF nAR nBR hPR
  rw [← hw0] at hPR
  rw [← bv_zero] at HR
  go_cut [9, 10] (fun c9 c10 wx => ∃ (p1_4 : Nat) (p1_5 : Nat) , c9 = .pointer (some ⟨p1_4, 0, none⟩) ∧ c10 = .pointer (some ⟨p1_5, 0, none⟩) ∧ AtA wx p1_4 (bv XA) 30 ∧ AtA wx p1_5 (bv YB) 30 ∧ p1_4 ≠ p1_5 ∧ W0.heap.size ≤ p1_4 ∧ W0.heap.size ≤ p1_5 ∧ Gr W0 wx)
  case first =>
    rename_i J K2 hJ hK2
    refine wp_region_inv (by kernel_rfl) (fun L ac wx => ∃ (y11 y12 y13 y14 y9 y10 : Value) (p1_4 : Nat) (p1_5 : Nat), ac = ⟨(.int .u8 12 :: .func (.func f) #[] #[] :: .agg (bv a) :: .agg (bv b) :: undef :: undef :: .pointer (some ⟨PA, 0, none⟩) :: .pointer (some ⟨PB, 0, none⟩) :: .pointer (some ⟨PR, 0, none⟩) :: y9 :: y10 :: y11 :: y12 :: y13 :: y14 :: undef :: undef :: undef :: undef :: undef :: undef :: undef :: undef :: undef :: undef :: undef :: undef :: undef :: undef :: undef :: undef :: undef :: undef :: undef :: undef :: undef :: undef :: undef :: undef :: undef :: undef :: undef :: undef :: [] : List Value).toArray, []⟩ ∧ Gr W0 wx ∧ (L 0 = true → y11 = .agg (bv a)) ∧ (L 1 = true → y12 = .agg (bv XA)) ∧ (L 2 = true → y13 = .agg (bv b)) ∧ (L 3 = true → y14 = .agg (bv YB)) ∧ (L 4 = true → y9 = .pointer (some ⟨p1_4, 0, none⟩) ∧ W0.heap.size ≤ p1_4 ∧ AtA wx p1_4 (bv (sel (L 6) XA zeroM)) 30) ∧ (L 5 = true → y10 = .pointer (some ⟨p1_5, 0, none⟩) ∧ W0.heap.size ≤ p1_5 ∧ AtA wx p1_5 (bv (sel (L 7) YB zeroM)) 30) ∧ (L 6 = true → L 1 = true ∧ L 4 = true) ∧ (L 7 = true → L 3 = true ∧ L 5 = true) ∧ (L 4 = true → L 5 = true → p1_4 ≠ p1_5)) (by kernel_rfl) ?h0 ?step ?fin
    case h0 => exact ⟨undef, undef, undef, undef, undef, undef, 0, 0, rfl, Gr.drew (Gr.refl _), (fun h => by cases h), (fun h => by cases h), (fun h => by cases h), (fun h => by cases h), (fun h => by cases h), (fun h => by cases h), (fun h => by cases h), (fun h => by cases h), (fun h => by cases h)⟩
    case step =>
      refine allOps_cons 0 ?_ ?_
      · refine keeps_free rfl ?_
        rintro L ac wx hL hd ⟨y11, y12, y13, y14, y9, y10, p1_4, p1_5, rfl, hG, f0, f1, f2, f3, f4, f5, f6, f7, g4_5⟩
        refine wp_loadB rfl rfl ((HA).gr hG) ?_
        exact ⟨.agg (bv a), y12, y13, y14, y9, y10, p1_4, p1_5, rfl, hG, fun _ => rfl, f1, f2, f3, f4, f5, f6, f7, g4_5⟩
      refine allOps_cons 1 ?_ ?_
      · refine keeps_free rfl ?_
        rintro L ac wx hL hd ⟨y11, y12, y13, y14, y9, y10, p1_4, p1_5, rfl, hG, f0, f1, f2, f3, f4, f5, f6, f7, g4_5⟩
        obtain ⟨e0, -⟩ := hd
        have h0 := f0 (e0 rfl); subst h0
        have l6 : L 6 = false := by
          cases h : L 6 with
          | false => rfl
          | true => have := (f6 h).1; rw [hL] at this; cases this
        refine wp_call2 rfl rfl rfl (by go_simp) ?_
        refine (cxa _).mono ?_
        rintro e w1 ⟨rfl, hg⟩
        refine ⟨_, rfl, ?_⟩
        exact ⟨_, _, y13, y14, y9, y10, p1_4, p1_5, rfl, hG.trans hg, fun _ => rfl, fun _ => rfl, f2, f3, fun h => let ⟨z1, z2, z3⟩ := f4 h; ⟨z1, z2, by rw [l6] at z3; rw [show upd L 1 6 = false from l6]; exact z3.gr hg⟩, fun h => let ⟨z1, z2, z3⟩ := f5 h; ⟨z1, z2, z3.gr hg⟩, (fun h => absurd (show L 6 = true from h) (by rw [l6]; decide)), f7, g4_5⟩
      refine allOps_cons 2 ?_ ?_
      · refine keeps_free rfl ?_
        rintro L ac wx hL hd ⟨y11, y12, y13, y14, y9, y10, p1_4, p1_5, rfl, hG, f0, f1, f2, f3, f4, f5, f6, f7, g4_5⟩
        refine wp_loadB rfl rfl ((HB).gr hG) ?_
        exact ⟨y11, y12, .agg (bv b), y14, y9, y10, p1_4, p1_5, rfl, hG, f0, f1, fun _ => rfl, f3, f4, f5, f6, f7, g4_5⟩
      refine allOps_cons 3 ?_ ?_
      · refine keeps_free rfl ?_
        rintro L ac wx hL hd ⟨y11, y12, y13, y14, y9, y10, p1_4, p1_5, rfl, hG, f0, f1, f2, f3, f4, f5, f6, f7, g4_5⟩
        obtain ⟨e0, e1, -⟩ := hd
        have h2 := f2 (e0 rfl); subst h2
        have l7 : L 7 = false := by
          cases h : L 7 with
          | false => rfl
          | true => have := (f7 h).1; rw [hL] at this; cases this
        refine wp_call2 rfl rfl rfl (by go_simp) ?_
        refine (cyb _).mono ?_
        rintro e w1 ⟨rfl, hg⟩
        refine ⟨_, rfl, ?_⟩
        exact ⟨y11, y12, _, _, y9, y10, p1_4, p1_5, rfl, hG.trans hg, f0, f1, fun _ => rfl, fun _ => rfl, fun h => let ⟨z1, z2, z3⟩ := f4 h; ⟨z1, z2, z3.gr hg⟩, fun h => let ⟨z1, z2, z3⟩ := f5 h; ⟨z1, z2, by rw [l7] at z3; rw [show upd L 3 7 = false from l7]; exact z3.gr hg⟩, f6, (fun h => absurd (show L 7 = true from h) (by rw [l7]; decide)), g4_5⟩
      refine allOps_cons 4 ?_ ?_
      · refine keeps_free rfl ?_
        rintro L ac wx hL hd ⟨y11, y12, y13, y14, y9, y10, p1_4, p1_5, rfl, hG, f0, f1, f2, f3, f4, f5, f6, f7, g4_5⟩
        have l6 : L 6 = false := by
          cases h : L 6 with
          | false => rfl
          | true => have := (f6 h).2; rw [hL] at this; cases this
        refine wp_allocB rfl ?_
        intro w1 hn hg
        exact ⟨y11, y12, y13, y14, _, y10, wx.heap.size, p1_5, rfl, hG.trans hg, f0, f1, f2, f3, fun _ => ⟨rfl, hG.below.size, by rw [show upd L 4 6 = false from l6]; exact hn⟩, fun h => let ⟨z1, z2, z3⟩ := f5 h; ⟨z1, z2, z3.gr hg⟩, (fun h => absurd (show L 6 = true from h) (by rw [l6]; decide)), f7, fun _ h => by have z := (f5 h).2.2.lt; omega⟩
      refine allOps_cons 5 ?_ ?_
      · refine keeps_free rfl ?_
        rintro L ac wx hL hd ⟨y11, y12, y13, y14, y9, y10, p1_4, p1_5, rfl, hG, f0, f1, f2, f3, f4, f5, f6, f7, g4_5⟩
        have l7 : L 7 = false := by
          cases h : L 7 with
          | false => rfl
          | true => have := (f7 h).2; rw [hL] at this; cases this
        refine wp_allocB rfl ?_
        intro w1 hn hg
        exact ⟨y11, y12, y13, y14, y9, _, p1_4, wx.heap.size, rfl, hG.trans hg, f0, f1, f2, f3, fun h => let ⟨z1, z2, z3⟩ := f4 h; ⟨z1, z2, z3.gr hg⟩, fun _ => ⟨rfl, hG.below.size, by rw [show upd L 5 7 = false from l7]; exact hn⟩, f6, (fun h => absurd (show L 7 = true from h) (by rw [l7]; decide)), fun h _ => by have z := (f4 h).2.2.lt; omega⟩
      refine allOps_cons 6 ?_ ?_
      · refine keeps_free rfl ?_
        rintro L ac wx hL hd ⟨y11, y12, y13, y14, y9, y10, p1_4, p1_5, rfl, hG, f0, f1, f2, f3, f4, f5, f6, f7, g4_5⟩
        obtain ⟨e0, e1, e2, e3, e4, e5, e6, e7, e8, -⟩ := hd
        have lp : L 4 = true := e0 rfl
        have lx : L 1 = true := e1 rfl
        obtain ⟨h1, h2, h3⟩ := f4 lp
        have h4 := f1 lx
        rw [hL] at h3
        subst h1; subst h4
        refine wp_storeB rfl rfl rfl h3 ?_
        intro w1 hn hgx
        exact ⟨y11, _, y13, y14, _, y10, p1_4, p1_5, rfl, hgx.gr _ hG h2, f0, fun _ => rfl, f2, f3, fun _ => ⟨rfl, h2, hn⟩, fun h => let ⟨z1, z2, z3⟩ := f5 h; ⟨z1, z2, z3.grx hgx (Ne.symm (g4_5 lp h))⟩, fun _ => ⟨lx, lp⟩, f7, g4_5⟩
      refine allOps_cons 7 ?_ ?_
      · refine keeps_free rfl ?_
        rintro L ac wx hL hd ⟨y11, y12, y13, y14, y9, y10, p1_4, p1_5, rfl, hG, f0, f1, f2, f3, f4, f5, f6, f7, g4_5⟩
        obtain ⟨e0, e1, e2, e3, e4, e5, e6, e7, e8, e9, -⟩ := hd
        have lp : L 5 = true := e0 rfl
        have lx : L 3 = true := e1 rfl
        obtain ⟨h1, h2, h3⟩ := f5 lp
        have h4 := f3 lx
        rw [hL] at h3
        subst h1; subst h4
        refine wp_storeB rfl rfl rfl h3 ?_
        intro w1 hn hgx
        exact ⟨y11, y12, y13, _, y9, _, p1_4, p1_5, rfl, hgx.gr _ hG h2, f0, f1, f2, fun _ => rfl, fun h => let ⟨z1, z2, z3⟩ := f4 h; ⟨z1, z2, z3.grx hgx (g4_5 h lp)⟩, fun _ => ⟨rfl, h2, hn⟩, f6, fun _ => ⟨lx, lp⟩, g4_5⟩
      exact allOps_nil 8
    case fin =>
      rintro L ac wx hall ⟨y11, y12, y13, y14, y9, y10, p1_4, p1_5, rfl, hG, f0, f1, f2, f3, f4, f5, f6, f7, g4_5⟩
      have l0 : L 0 = true := hall 0 (by decide)
      have l1 : L 1 = true := hall 1 (by decide)
      have l2 : L 2 = true := hall 2 (by decide)
      have l3 : L 3 = true := hall 3 (by decide)
      have l4 : L 4 = true := hall 4 (by decide)
      have l5 : L 5 = true := hall 5 (by decide)
      have l6 : L 6 = true := hall 6 (by decide)
      have l7 : L 7 = true := hall 7 (by decide)
      obtain ⟨h4, k4, z4⟩ := f4 l4; rw [l6] at z4
      obtain ⟨h5, k5, z5⟩ := f5 l5; rw [l7] at z5
      refine hK2 _ _ (hJ _ _ ?_)
      (repeat apply Exists.intro)
      refine ⟨?rel1, rfl⟩
      exact ⟨p1_4, p1_5, h4, h5, z4, z5, g4_5 l4 l5, k4, k5, hG⟩
  case rest =>
    obtain ⟨p1_4, p1_5, rfl, rfl, zp1_4, zp1_5, np1_4_p1_5, zp1_4ge, zp1_5ge, hc1⟩ := hcut
    have hPA_1 := (HA).gr hc1
    have hPB_1 := (HB).gr hc1
    have hPR_1 := (HR).gr hc1
    have hF_1 := (HF).trans hc1
    have nPA_p1_4 : PA ≠ p1_4 := Nat.ne_of_lt (Nat.lt_of_lt_of_le HA.lt zp1_4ge)
    have nPB_p1_4 : PB ≠ p1_4 := Nat.ne_of_lt (Nat.lt_of_lt_of_le HB.lt zp1_4ge)
    have nPR_p1_4 : PR ≠ p1_4 := Nat.ne_of_lt (Nat.lt_of_lt_of_le HR.lt zp1_4ge)
    have frp1_4 := Nat.le_trans HF.below.size zp1_4ge
    have nPA_p1_5 : PA ≠ p1_5 := Nat.ne_of_lt (Nat.lt_of_lt_of_le HA.lt zp1_5ge)
    have nPB_p1_5 : PB ≠ p1_5 := Nat.ne_of_lt (Nat.lt_of_lt_of_le HB.lt zp1_5ge)
    have nPR_p1_5 : PR ≠ p1_5 := Nat.ne_of_lt (Nat.lt_of_lt_of_le HR.lt zp1_5ge)
    have frp1_5 := Nat.le_trans HF.below.size zp1_5ge
    go_upto_region 3 with fail
    refine wp_region_seqW (by kernel_rfl) ?_
    refine seq_do ?_
    refine wp_loadB rfl rfl (hPA_1) ?_
    refine seq_do ?_
    refine wp_call1 rfl rfl (by go_simp) ?_
    refine ((csx) _).mono ?_
    rintro e wk2 ⟨rfl, hk2⟩
    refine ⟨_, rfl, ?_⟩
    have hPA_2 := (hPA_1).gr hk2
    have hPB_2 := (hPB_1).gr hk2
    have hPR_2 := (hPR_1).gr hk2
    have hp1_4_2 := (zp1_4).gr hk2
    have hp1_5_2 := (zp1_5).gr hk2
    have hF_2 := (hF_1).trans hk2
    refine seq_do ?_
    refine wp_storeB rfl rfl rfl (hp1_4_2) ?_
    intro ws3 hs3 gx3
    have hPA_3 := (hPA_2).grx gx3 nPA_p1_4
    have hPB_3 := (hPB_2).grx gx3 nPB_p1_4
    have hPR_3 := (hPR_2).grx gx3 nPR_p1_4
    have hp1_5_3 := (hp1_5_2).grx gx3 (Ne.symm np1_4_p1_5)
    have hF_3 := gx3.gr _ (hF_2) frp1_4
    simp only [Act.put, List.setIfInBounds_toArray, List.set_cons_zero, List.set_cons_succ]
    refine seq_end ?_
    go_upto_region 4 with fail
    refine wp_region_seqq (C := Gr ws3) (Gr.refl _) ?_
    refine q_do (by rfl) ?_
    refine q_loadB rfl rfl (fun w h => (hs3).gr h) ?_
    refine q_do (by rfl) ?_
    refine q_call1 rfl rfl (fun w => by go_simp) (grc (fun w => k_none SX w) (by rw [nnB_of gsx])) ?_
    refine q_do (by rfl) ?_
    refine q_move (v := .bool false) rfl rfl ?_
    simp only [Act.put, List.setIfInBounds_toArray, List.set_cons_zero, List.set_cons_succ]
    refine q_do (by rfl) ?_
    refine q_loadB rfl rfl (fun w h => (hp1_5_3).gr h) ?_
    refine q_do (by rfl) ?_
    refine q_call1 rfl rfl (fun w => by go_simp) (grc (fun w => k_none YB w) (by rw [nnB_of gyb])) ?_
    refine q_do (by rfl) ?_
    refine q_pickF (v := .bool false) rfl rfl rfl ?_
    simp only [Act.put, List.setIfInBounds_toArray, List.set_cons_zero, List.set_cons_succ]
    intro wq4 hq4
    have hPA_4 := (hPA_3).gr hq4
    have hPB_4 := (hPB_3).gr hq4
    have hPR_4 := (hPR_3).gr hq4
    have hp1_4_4 := (hs3).gr hq4
    have hp1_5_4 := (hp1_5_3).gr hq4
    have hF_4 := (hF_3).trans hq4
    go_upto_region 7 with fail
    refine wp_region_seqW (by kernel_rfl) ?_
    refine seq_do ?_
    refine wp_loadB rfl rfl (hPB_4) ?_
    refine seq_do ?_
    refine wp_call1 rfl rfl (by go_simp) ?_
    refine ((cy5) _).mono ?_
    rintro e wk5 ⟨rfl, hk5⟩
    refine ⟨_, rfl, ?_⟩
    have hPA_5 := (hPA_4).gr hk5
    have hPB_5 := (hPB_4).gr hk5
    have hPR_5 := (hPR_4).gr hk5
    have hp1_4_5 := (hp1_4_4).gr hk5
    have hp1_5_5 := (hp1_5_4).gr hk5
    have hF_5 := (hF_4).trans hk5
    refine seq_do ?_
    refine wp_storeB rfl rfl rfl (hp1_5_5) ?_
    intro ws6 hs6 gx6
    have hPA_6 := (hPA_5).grx gx6 nPA_p1_5
    have hPB_6 := (hPB_5).grx gx6 nPB_p1_5
    have hPR_6 := (hPR_5).grx gx6 nPR_p1_5
    have hp1_4_6 := (hp1_4_5).grx gx6 np1_4_p1_5
    have hF_6 := gx6.gr _ (hF_5) frp1_5
    simp only [Act.put, List.setIfInBounds_toArray, List.set_cons_zero, List.set_cons_succ]
    refine seq_end ?_
    go_upto_region 8 with fail
    refine wp_region_sqn (C := Gr ws6) 5 (by kernel_rfl) (Gr.refl _) ?_
    refine q_do (by rfl) ?_
    refine q_move (v := .func (.func f) #[] #[]) rfl rfl ?_
    refine q_do (by rfl) ?_
    refine q_loadB rfl rfl (fun w h => (hp1_4_6).gr h) ?_
    refine q_do (by rfl) ?_
    refine q_loadB rfl rfl (fun w h => (hs6).gr h) ?_
    simp only [Act.put, List.setIfInBounds_toArray, List.set_cons_zero, List.set_cons_succ]
    refine q_do (by rfl) ?_
    refine q_callv2 rfl rfl rfl rfl hfn (grc (cf) (rfl)) ?_
    refine q_do (by rfl) ?_
    refine q_call2 rfl rfl rfl (fun w => by go_simp) (grc (cd) (rfl)) ?_
    simp only [Act.put, List.setIfInBounds_toArray, List.set_cons_zero, List.set_cons_succ]
    intro wq7 hq7
    have hPA_7 := (hPA_6).gr hq7
    have hPB_7 := (hPB_6).gr hq7
    have hPR_7 := (hPR_6).gr hq7
    have hp1_4_7 := (hp1_4_6).gr hq7
    have hp1_5_7 := (hs6).gr hq7
    have hF_7 := (hF_6).trans hq7
    refine seq_do ?_
    refine wp_storeB rfl rfl rfl (hPR_7) ?_
    intro ws8 hs8 gx8
    have hPA_8 := (hPA_7).grx gx8 nAR
    have hPB_8 := (hPB_7).grx gx8 nBR
    have hp1_4_8 := (hp1_4_7).grx gx8 (Ne.symm nPR_p1_4)
    have hp1_5_8 := (hp1_5_7).grx gx8 (Ne.symm nPR_p1_5)
    have hF_8 := gx8.gr _ (hF_7) hPR
    simp only [Act.put, List.setIfInBounds_toArray, List.set_cons_zero, List.set_cons_succ]
    refine seq_end ?_
    obtain ⟨r0, r1, r2, r3, r4, r5, r6, r7, r8, r9⟩ := cells_bv (hs8)
    go_wp2
    refine bodyPost_ret (by simp [results, Tryz.results65, go_sem, r0, r1, r2, r3, r4, r5, r6, r7, r8, r9]; try rfl) rfl ?_
    exact ⟨rfl, hF_8⟩
end Go.Proofs.YtekenpgagfmgkaaGreat
end
