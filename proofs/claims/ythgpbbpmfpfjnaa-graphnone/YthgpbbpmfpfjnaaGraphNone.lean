/- GraphNone: what no graph answers (the rules: nil), for every place, every handle, every node: the statement as given. No condition. -/
import Derived.Test.YthgpbbpmfpfjnaaGU
import Derived.Lib.SmallJoins
import Derived.WalkKit
import Derived.ProofKit
import Derived.OpenShut
import Derived.ShutString
namespace Go.Proofs.Ythgpbbpmfpfjnaa.graphNone
open Go.ChangeShapes Go.WideShapes Go.ChangeAt Go.RowKit
open Go.ChangeMaps (open_string shut_string)
set_option linter.unusedVariables false
set_option linter.unusedSimpArgs false

theorem own : ownKnob Try.prog.godebug = none := by kernel_rfl

set_option maxRecDepth 100000 in
set_option maxHeartbeats 16000000 in
theorem walk (a0 b0 g0 : Int) (a1 b1 : Int) (a2 : Int) (w : World)  (w1 : (Lit.int .i64 a1).wf = true) (x1 : (Lit.int .u64 b1).wf = true) (w2 : (Lit.int .i64 a2).wf = true) :
    Calls Try.prog 5 #[.agg #[.int .i64 a0, .int .i64 b0, .int .i64 g0], .agg #[.int .i64 a1, .int .u64 b1], .int .i64 a2] w fun e w' => e = .returned (.bool true) ∧ Below w.heap.size w w' := by
  have hb0 : ((b1.toNat : Nat) : Int) = b1 := by have := wf_u64 x1; omega
  have k0 := fun W => gpop_nil (a0, b0, g0) true W
  have k1 := fun W => gpeek_nil (a0, b0, g0) true 0 W
  have k2 := fun W => gat_nil (a0, b0, g0) true 0 W
  have k3 := fun W => gin_nil (a1, b1.toNat) a2 W
  have k4 := fun W => gpush_nil (a0, b0, g0) ((a1, b1.toNat), a2) true W
  have k5 := fun W => gins_nil (a0, b0, g0) 0 ((a1, b1.toNat), a2) W
  have k6 := fun W => grem_nil (a0, b0, g0) (a1, b1.toNat) a2 W
  have k7 := fun W => glen_nil (a0, b0, g0) true 0 W
  have k8 := fun W => gkind_nil (a0, b0, g0) true 0 W
  have k9 := fun W => gdrain_nil (a0, b0, g0) W
  have k10 := fun W => places_nil W
  have k11 := fun W => works_any W
  simp only [hb0, pK, P.hK, hK2, zH, zP] at k0 k1 k2 k3 k4 k5 k6 k7 k8 k9
  have q1 := fun W => eqlH 0 0 0 0 W
  simp only [beq_self_eq_true, Bool.and_self] at q1
  have q2 := fun W => P.eqlP (0, 0, 0) (0, 0, 0) W
  simp only [decide_true, P.hK] at q2
  go_enter Try.func5, Try.ntmps5
  go_upto_region 2 with fail
  have za := heap_al (heap_alloc_new w (.cells #[.int .i64 a0, .int .i64 b0, .int .i64 g0] 28)) (.cells #[.int .i64 a1, .int .u64 b1] 31)
  have zb := heap_alloc_new (w.alloc (.cells #[.int .i64 a0, .int .i64 b0, .int .i64 g0] 28)) (.cells #[.int .i64 a1, .int .u64 b1] 31)
  rw [World.size_alloc] at zb
  have hb : Below w.heap.size w ((w.alloc (.cells #[.int .i64 a0, .int .i64 b0, .int .i64 g0] 28)).alloc (.cells #[.int .i64 a1, .int .u64 b1] 31)) := ((Below.refl _ w).alloc (Nat.le_refl _) _).alloc (by simp) _
  generalize (w.alloc (.cells #[.int .i64 a0, .int .i64 b0, .int .i64 g0] 28)).alloc (.cells #[.int .i64 a1, .int .u64 b1] 31) = W1 at za zb hb ⊢
  obtain ⟨u0, u1, u2⟩ := pl_cells (p := (a0, b0, g0)) za
  simp only at u0 u1 u2
  go_upto_region 3 with (go_at_call 11; refine (k0 _).mono ?_; rintro e wx ⟨rfl, hx⟩)
  replace za := heap_al ((hx.block _ (heap_lt za)).trans za) (.cells #[.int .i64 0, .int .u64 0] 31)
  replace zb := heap_al ((hx.block _ (heap_lt zb)).trans zb) (.cells #[.int .i64 0, .int .u64 0] 31)
  have zx := heap_alloc_new wx (.cells #[.int .i64 0, .int .u64 0] 31)
  have hw := hb.trans (hx.mono hb.size)
  replace hb : Below w.heap.size w (wx.alloc (.cells #[.int .i64 0, .int .u64 0] 31)) := hw.alloc hw.size _
  clear hw hx u0 u1 u2
  generalize wx.alloc (.cells #[.int .i64 0, .int .u64 0] 31) = W3 at za zb zx hb ⊢
  generalize wx.heap.size = nzx at zx ⊢
  obtain ⟨u0, u1, u2⟩ := pl_cells (p := (a0, b0, g0)) za
  simp only at u0 u1 u2
  go_upto_region 4 with (go_at_call 20; refine (k1 _).mono ?_; rintro e wx ⟨rfl, hx⟩)
  replace za := heap_al ((hx.block _ (heap_lt za)).trans za) (.cells #[.int .i64 0, .int .u64 0] 31)
  replace zb := heap_al ((hx.block _ (heap_lt zb)).trans zb) (.cells #[.int .i64 0, .int .u64 0] 31)
  replace zx := heap_al ((hx.block _ (heap_lt zx)).trans zx) (.cells #[.int .i64 0, .int .u64 0] 31)
  have zy := heap_alloc_new wx (.cells #[.int .i64 0, .int .u64 0] 31)
  have hw := hb.trans (hx.mono hb.size)
  replace hb : Below w.heap.size w (wx.alloc (.cells #[.int .i64 0, .int .u64 0] 31)) := hw.alloc hw.size _
  clear hw hx u0 u1 u2
  generalize wx.alloc (.cells #[.int .i64 0, .int .u64 0] 31) = W4 at za zb zx zy hb ⊢
  generalize wx.heap.size = nzy at zy ⊢
  obtain ⟨u0, u1, u2⟩ := pl_cells (p := (a0, b0, g0)) za
  simp only at u0 u1 u2
  go_upto_region 5 with (go_at_call 16; refine (k2 _).mono ?_; rintro e wx ⟨rfl, hx⟩)
  replace za := heap_al ((hx.block _ (heap_lt za)).trans za) (.cells #[.int .i64 0, .int .u64 0] 31)
  replace zb := heap_al ((hx.block _ (heap_lt zb)).trans zb) (.cells #[.int .i64 0, .int .u64 0] 31)
  replace zx := heap_al ((hx.block _ (heap_lt zx)).trans zx) (.cells #[.int .i64 0, .int .u64 0] 31)
  replace zy := heap_al ((hx.block _ (heap_lt zy)).trans zy) (.cells #[.int .i64 0, .int .u64 0] 31)
  have zz := heap_alloc_new wx (.cells #[.int .i64 0, .int .u64 0] 31)
  have hw := hb.trans (hx.mono hb.size)
  replace hb : Below w.heap.size w (wx.alloc (.cells #[.int .i64 0, .int .u64 0] 31)) := hw.alloc hw.size _
  clear hw hx u0 u1 u2
  generalize wx.alloc (.cells #[.int .i64 0, .int .u64 0] 31) = W5 at za zb zx zy zz hb ⊢
  generalize wx.heap.size = nzz at zz ⊢
  obtain ⟨u0, u1, u2⟩ := pl_cells (p := (a0, b0, g0)) za
  simp only at u0 u1 u2
  have c0 := cell_of zb 0
  have c1 := cell_of zb 1
  simp at c0 c1
  go_upto_region 6 with (go_at_call 14; refine (k3 _).mono ?_; rintro e wx ⟨rfl, hx⟩)
  replace za := heap_al ((hx.block _ (heap_lt za)).trans za) (.cells #[.int .i64 0, .int .i64 0, .int .i64 0] 28)
  replace zb := heap_al ((hx.block _ (heap_lt zb)).trans zb) (.cells #[.int .i64 0, .int .i64 0, .int .i64 0] 28)
  replace zx := heap_al ((hx.block _ (heap_lt zx)).trans zx) (.cells #[.int .i64 0, .int .i64 0, .int .i64 0] 28)
  replace zy := heap_al ((hx.block _ (heap_lt zy)).trans zy) (.cells #[.int .i64 0, .int .i64 0, .int .i64 0] 28)
  replace zz := heap_al ((hx.block _ (heap_lt zz)).trans zz) (.cells #[.int .i64 0, .int .i64 0, .int .i64 0] 28)
  have zq := heap_alloc_new wx (.cells #[.int .i64 0, .int .i64 0, .int .i64 0] 28)
  have hw := hb.trans (hx.mono hb.size)
  replace hb : Below w.heap.size w (wx.alloc (.cells #[.int .i64 0, .int .i64 0, .int .i64 0] 28)) := hw.alloc hw.size _
  clear hw hx u0 u1 u2 c0 c1
  generalize wx.alloc (.cells #[.int .i64 0, .int .i64 0, .int .i64 0] 28) = W6 at za zb zx zy zz zq hb ⊢
  generalize wx.heap.size = nzq at zq ⊢
  obtain ⟨u0, u1, u2⟩ := pl_cells (p := (a0, b0, g0)) za
  simp only at u0 u1 u2
  have cs : ∀ W : World, W.heap[w.heap.size]? = some (.cells #[.int .i64 a0, .int .i64 b0, .int .i64 g0] 28 (0, 0)) → W.heap[w.heap.size + 1]? = some (.cells #[.int .i64 a1, .int .u64 b1] 31 (0, 0)) → W.heap[nzx]? = some (.cells #[.int .i64 0, .int .u64 0] 31 (0, 0)) → W.heap[nzy]? = some (.cells #[.int .i64 0, .int .u64 0] 31 (0, 0)) → W.heap[nzz]? = some (.cells #[.int .i64 0, .int .u64 0] 31 (0, 0)) → W.heap[nzq]? = some (.cells #[.int .i64 0, .int .i64 0, .int .i64 0] 28 (0, 0)) → W.cell? ⟨w.heap.size, 0, none⟩ = some (.int .i64 a0) ∧ W.cell? ⟨w.heap.size, 1, none⟩ = some (.int .i64 b0) ∧ W.cell? ⟨w.heap.size, 2, none⟩ = some (.int .i64 g0) ∧ W.cell? ⟨w.heap.size + 1, 0, none⟩ = some (.int .i64 a1) ∧ W.cell? ⟨w.heap.size + 1, 1, none⟩ = some (.int .u64 b1) ∧ W.cell? ⟨nzx, 0, none⟩ = some (.int .i64 0) ∧ W.cell? ⟨nzx, 1, none⟩ = some (.int .u64 0) ∧ W.cell? ⟨nzy, 0, none⟩ = some (.int .i64 0) ∧ W.cell? ⟨nzy, 1, none⟩ = some (.int .u64 0) ∧ W.cell? ⟨nzz, 0, none⟩ = some (.int .i64 0) ∧ W.cell? ⟨nzz, 1, none⟩ = some (.int .u64 0) ∧ W.cell? ⟨nzq, 0, none⟩ = some (.int .i64 0) ∧ W.cell? ⟨nzq, 1, none⟩ = some (.int .i64 0) ∧ W.cell? ⟨nzq, 2, none⟩ = some (.int .i64 0) := by
    intro W za zb zx zy zz zq
    refine ⟨?_, ?_, ?_, ?_, ?_, ?_, ?_, ?_, ?_, ?_, ?_, ?_, ?_, ?_⟩
    · rw [cell_of za]; rfl
    · rw [cell_of za]; rfl
    · rw [cell_of za]; rfl
    · rw [cell_of zb]; rfl
    · rw [cell_of zb]; rfl
    · rw [cell_of zx]; rfl
    · rw [cell_of zx]; rfl
    · rw [cell_of zy]; rfl
    · rw [cell_of zy]; rfl
    · rw [cell_of zz]; rfl
    · rw [cell_of zz]; rfl
    · rw [cell_of zq]; rfl
    · rw [cell_of zq]; rfl
    · rw [cell_of zq]; rfl
  clear u0 u1 u2
  obtain ⟨c0, c1, c2, c3, c4, c5, c6, c7, c8, c9, c10, c11, c12, c13⟩ := cs _ za zb zx zy zz zq
  try dsimp only [List.append]
  try simp only [List.append_eq, List.cons_append, List.nil_append]
  go_wp2_with (first
    | (go_at_call 9; go_loud (refine (k4 _).mono ?_; rintro e wA ⟨rfl, hA⟩; have zaA := (hA.block _ (heap_lt za)).trans za; have zbA := (hA.block _ (heap_lt zb)).trans zb; have zxA := (hA.block _ (heap_lt zx)).trans zx; have zyA := (hA.block _ (heap_lt zy)).trans zy; have zzA := (hA.block _ (heap_lt zz)).trans zz; have zqA := (hA.block _ (heap_lt zq)).trans zq; obtain ⟨cA0, cA1, cA2, cA3, cA4, cA5, cA6, cA7, cA8, cA9, cA10, cA11, cA12, cA13⟩ := cs _ zaA zbA zxA zyA zzA zqA))
    | (go_at_call 10; go_loud (refine (k5 _).mono ?_; rintro e wB ⟨rfl, hB⟩; have zaB := (hB.block _ (heap_lt zaA)).trans zaA; have zbB := (hB.block _ (heap_lt zbA)).trans zbA; have zxB := (hB.block _ (heap_lt zxA)).trans zxA; have zyB := (hB.block _ (heap_lt zyA)).trans zyA; have zzB := (hB.block _ (heap_lt zzA)).trans zzA; have zqB := (hB.block _ (heap_lt zqA)).trans zqA; obtain ⟨cB0, cB1, cB2, cB3, cB4, cB5, cB6, cB7, cB8, cB9, cB10, cB11, cB12, cB13⟩ := cs _ zaB zbB zxB zyB zzB zqB))
    | (go_at_call 12; go_loud (refine (k6 _).mono ?_; rintro e wC ⟨rfl, hC⟩; have zaC := (hC.block _ (heap_lt zaB)).trans zaB; have zbC := (hC.block _ (heap_lt zbB)).trans zbB; have zxC := (hC.block _ (heap_lt zxB)).trans zxB; have zyC := (hC.block _ (heap_lt zyB)).trans zyB; have zzC := (hC.block _ (heap_lt zzB)).trans zzB; have zqC := (hC.block _ (heap_lt zqB)).trans zqB; obtain ⟨cC0, cC1, cC2, cC3, cC4, cC5, cC6, cC7, cC8, cC9, cC10, cC11, cC12, cC13⟩ := cs _ zaC zbC zxC zyC zzC zqC))
    | (go_at_call 15; go_loud (refine (k7 _).mono ?_; rintro e wD ⟨rfl, hD⟩; have zaD := (hD.block _ (heap_lt zaC)).trans zaC; have zbD := (hD.block _ (heap_lt zbC)).trans zbC; have zxD := (hD.block _ (heap_lt zxC)).trans zxC; have zyD := (hD.block _ (heap_lt zyC)).trans zyC; have zzD := (hD.block _ (heap_lt zzC)).trans zzC; have zqD := (hD.block _ (heap_lt zqC)).trans zqC; obtain ⟨cD0, cD1, cD2, cD3, cD4, cD5, cD6, cD7, cD8, cD9, cD10, cD11, cD12, cD13⟩ := cs _ zaD zbD zxD zyD zzD zqD))
    | (go_at_call 19; go_loud (refine (k8 _).mono ?_; rintro e wE ⟨rfl, hE⟩; have zaE := (hE.block _ (heap_lt zaD)).trans zaD; have zbE := (hE.block _ (heap_lt zbD)).trans zbD; have zxE := (hE.block _ (heap_lt zxD)).trans zxD; have zyE := (hE.block _ (heap_lt zyD)).trans zyD; have zzE := (hE.block _ (heap_lt zzD)).trans zzD; have zqE := (hE.block _ (heap_lt zqD)).trans zqD; obtain ⟨cE0, cE1, cE2, cE3, cE4, cE5, cE6, cE7, cE8, cE9, cE10, cE11, cE12, cE13⟩ := cs _ zaE zbE zxE zyE zzE zqE))
    | (go_at_call 13; go_loud (refine (k9 _).mono ?_; rintro e wF ⟨rfl, hF⟩; have zaF := (hF.block _ (heap_lt zaE)).trans zaE; have zbF := (hF.block _ (heap_lt zbE)).trans zbE; have zxF := (hF.block _ (heap_lt zxE)).trans zxE; have zyF := (hF.block _ (heap_lt zyE)).trans zyE; have zzF := (hF.block _ (heap_lt zzE)).trans zzE; have zqF := (hF.block _ (heap_lt zqE)).trans zqE; obtain ⟨cF0, cF1, cF2, cF3, cF4, cF5, cF6, cF7, cF8, cF9, cF10, cF11, cF12, cF13⟩ := cs _ zaF zbF zxF zyF zzF zqF))
    | (go_at_call 17; refine (k10 _).mono ?_; rintro e w' ⟨rfl, hw⟩; rw [hw]; clear hw)
    | (go_at_call 7; refine (k11 _).mono ?_; rintro e wG ⟨rfl, hG⟩))
  all_goals go_returns
  have h1 := hb.trans (hA.mono hb.size)
  have h2 := h1.trans (hB.mono h1.size)
  have h3 := h2.trans (hC.mono h2.size)
  have h4 := h3.trans (hD.mono h3.size)
  have h5 := h4.trans (hE.mono h4.size)
  have h6 := h5.trans (hF.mono h5.size)
  exact ⟨rfl, h6.trans (hG.mono h6.size)⟩

theorem readable : ∀ t ∈ Try.f5.params.toList, Try.prog.readableRec t = true ∧ t < Try.prog.types.size := by
  rw [Try.params5]
  intro t ht
  simp at ht
  rcases ht with rfl | rfl | rfl
  all_goals exact ⟨by kernel_rfl, of_decide_eq_true (by kernel_rfl)⟩
set_option maxRecDepth 100000 in
theorem lifted (os : Os) (started : os.Started) (H : Type) (enc : TypeId × Value → H) :
    ReturnsInHanded {} Try.checked os 5 .any (Rows.graphNoneSpec.pre6 enc Try.prog Try.f5 Rows.graphNoneRow.domain false) (Rows.graphNoneSpec.post enc Try.prog Try.f5 false true false false) := by
  refine returnsInHanded_of_change (C := Try.checked) own started (by kernel_rfl) Try.func5
    (ChangeSpec.witness6 (enc := enc) (C := Try.checked) false ⟨#[], #[.agg #[.int .i64 0, .int .i64 0, .int .i64 0], .agg #[.int .i64 0, .int .u64 0], .int .i64 0], []⟩ 8 (by kernel_rfl) (by kernel_rfl) (by kernel_rfl) (by kernel_rfl)) ?_
  intro W base args ds gs before hval0 hW hcnd _
  have hval : ∀ (j : Nat) t v, Try.f5.params[j]? = some t → args[j]? = some v → Value.okWide Try.prog W .any base t v := hval0
  have hW' := hW
  obtain ⟨p, q, hA0, hV, rfl, hfz, hnd⟩ := hW
  have hA : DataW.TrodAll enc Try.prog W 0 (fun _ => true) true Try.f5.params.toList args.toList ds p := hA0
  rw [Try.params5] at hA hval
  obtain ⟨v0, vs0, d0, ds0, p0, q0, hargs, rfl, rfl, h0, r0⟩ := trodAll_cons hA
  obtain ⟨v1, vs1, d1, ds1, p1, q1, rfl, rfl, rfl, h1, r1⟩ := trodAll_cons r0
  obtain ⟨v2, vs2, d2, ds2, p2, q2, rfl, rfl, rfl, h2, r2⟩ := trodAll_cons r1
  obtain ⟨rfl, rfl, rfl⟩ := trodAll_nil r2
  obtain rfl : args = #[v0, v1, v2] := by cases args; simp_all
  obtain ⟨rfl, rfl⟩ := trodVars_none hV
  obtain ⟨a0, b0, g0, rfl⟩ := open_plv (hval 0 28 v0 rfl rfl) h0
  obtain ⟨c1, e1, y1, z1, m1, rfl, rfl, rfl, hy1, hz1⟩ := Joins.open_agg2 Try.underlying31 (by kernel_rfl) (by kernel_rfl) (hval 1 31 v1 rfl rfl) h1
  obtain ⟨a1, f1, rfl, w1⟩ := DataW.trod_int Try.underlying3 hy1
  obtain ⟨b1, g1, rfl, x1⟩ := DataW.trod_int Try.underlying29 hz1
  simp at f1 g1
  subst f1 g1
  obtain ⟨a2, rfl, rfl, rfl, w2⟩ := open_int Try.underlying3 (hval 2 3 v2 rfl rfl) h2
  clear hA0 hval0
  refine (walk a0 b0 g0 a1 b1 a2 W  w1 x1 w2).mono fun e W' ⟨he, hg⟩ => ?_
  subst he
  exact ⟨_, rfl, post_bel readable hW' rfl (fun _ _ _ => (trodAll_cons_mk (shut_bool Try.underlying4 _) trodAll_mk0)) rfl (fun _ => rfl)
    hg (ok_one (by kernel_rfl) rfl (okWide_bool_mk Try.underlying4 _))⟩

theorem over : Rows.graphNoneRow.holds Try.pinned (OpenSpec.ofChange Rows.graphNoneSpec) :=
  OpenClaim.holds_of_wide 5 Try.f5 rfl rfl rfl rfl rfl rfl rfl ⟨rfl, rfl, rfl, rfl, rfl⟩ rfl rfl rfl rfl rfl (by kernel_rfl) Try.func5 (by kernel_rfl)
    (of_decide_eq_true (by kernel_rfl)) (by unfold Func.isWrapper; first | (rw [if_pos (by decide +kernel)]; kernel_rfl) | (rw [if_neg (by decide +kernel)]; exact ⟨rfl, rfl⟩))
    (fun os started H enc _ => lifted os started H enc)

theorem proved : Rows.GraphNoneSaid :=
  over
end Go.Proofs.Ythgpbbpmfpfjnaa.graphNone
namespace Go.Proofs.Ythgpbbpmfpfjnaa
theorem graphNone_holds : Rows.GraphNoneSaid :=
  graphNone.proved
#print axioms graphNone_holds
end Go.Proofs.Ythgpbbpmfpfjnaa
