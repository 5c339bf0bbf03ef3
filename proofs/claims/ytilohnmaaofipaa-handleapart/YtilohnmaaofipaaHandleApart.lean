/- HandleApart: handles of one slot make no difference to another one's (P13.1, P13.3), for every script, every other slot, however often it is made and dropped besides: the statement as given. No condition. -/
import Derived.Test.YtilohnmaaofipaaHD
import Derived.WalkKit
import Derived.ProofKit
import Derived.OpenShut
import Derived.ShutString
namespace Go.Proofs.Ytilohnmaaofipaa.handleApart
open Go.ChangeShapes Go.WideShapes Go.ChangeAt Go.RowKit
open Go.ChangeMaps (open_string shut_string)
set_option linter.unusedVariables false
set_option linter.unusedSimpArgs false

theorem own : ownKnob Try.prog.godebug = none := by kernel_rfl

set_option maxRecDepth 100000 in
set_option maxHeartbeats 16000000 in
theorem walk (p0 : Option Addr) (L0 : List St) (c0 : Nat) (a1 : Int) (a2 : Int) (w : World) (hL0 : Sts w p0 L0) (w1 : (Lit.int .i64 a1).wf = true) (w2 : (Lit.int .u8 a2).wf = true) :
    Calls Try.prog 5 #[.slice p0 L0.length c0, .int .i64 a1, .int .u8 a2] w fun e w' => e = .returned (.bool true) ∧ Below w.heap.size w w' := by
  have hw1 := wf_i64 w1
  have hw2 := wf_u8 w2
  have kw := fun W => works_any W
  by_cases hlen : 200 < L0.length
  · have d1 : decide ((200 : Int) < (L0.length : Int)) = true := by simp; omega
    go_enter Try.func5, Try.ntmps5
    go_wp2_with (go_at_call 7; refine (kw _).mono ?_; rintro e w3 ⟨rfl, hb⟩)
    all_goals go_returns
    exact ⟨rfl, hb⟩
  have d1 : decide ((200 : Int) < (L0.length : Int)) = false := by simp; omega
  by_cases ho : a1 < 0
  · go_enter Try.func5, Try.ntmps5
    go_wp2_with (go_at_call 7; refine (kw _).mono ?_; rintro e w3 ⟨rfl, hb⟩)
    all_goals go_returns
    exact ⟨rfl, hb⟩
  have k1 := new_any w
  have hsts := hL0.1
  rcases hL0.2 with hnil | ⟨pb, po, rfl, hpl, hpc⟩
  · subst hnil
    go_enter Try.func5, Try.ntmps5
    go_upto_region 4 with (go_at_call 8; first | (refine k1.mono ?_; rintro e wa ⟨rfl, hTa, hba⟩; have k2 := new_any wa) | (refine k2.mono ?_; rintro e wb ⟨rfl, hTb, hbb⟩))
    clear k1 k2
    go_wp2
    refine wp_loop_rounds 2 ?_
    rw [rounds_succ]
    go_wp2_with (go_at_call 7; refine (kw _).mono ?_; rintro e w3 ⟨rfl, hb⟩)
    all_goals go_returns
    have h1 := hba.trans (hbb.mono hba.size)
    exact ⟨rfl, h1.trans (hb.mono h1.size)⟩
  clear hL0
  replace hpc : Hid _ := hpc
  replace hsts : Hid _ := hsts
  go_enter Try.func5, Try.ntmps5
  go_upto_region 4 with (go_at_call 8; first | (refine k1.mono ?_; rintro e wa ⟨rfl, hTa, hba⟩; have k2 := new_any wa) | (refine k2.mono ?_; rintro e wb ⟨rfl, hTb, hbb⟩))
  have hab : w.heap.size + 2 < wa.heap.size := heap_lt hTa.cells
  have hAp : Ap wb w.heap.size (w.heap.size + 2) w.heap.size (w.heap.size + 1) (wa.heap.size + 2) wa.heap.size (wa.heap.size + 1) a1 0 := ⟨_, _, _, _, hTa.below hbb, hTb.base (by omega), fun _ _ => ⟨rfl, rfl⟩, rfl⟩
  have hbl := hba.trans (hbb.mono hba.size)
  clear k1 k2 hTa hTb hba hbb
  generalize wa.heap.size = S at hAp hab ⊢
  generalize hB0 : w.heap.size = B at hAp hab hbl hpl ⊢
  replace hB0 : Hid _ := hB0
  go_wp2
  go_loopw [9] (fun n1 wr => ∃ i : Nat, n1 = .int .i64 i ∧ i ≤ L0.length ∧ Ap wr B (B + 2) B (B + 1) (S + 2) S (S + 1) a1 (5 * i) ∧ Below B w wr) (fun n1 _ => L0.length - (valOf n1).toNat)
  case atStart => exact ⟨0, rfl, by omega, hAp, hbl⟩
  case round =>
    obtain ⟨i, rfl, hi, hAp, hbl⟩ := hrel
    by_cases hin : i < L0.length
    · have d : decide ((i : Int) < L0.length) = true := by simp; omega
      have e9 : IntKind.i64.wrap ((i : Int) + 1) = (i : Int) + 1 := IntWalk.i64_in _ (by omega)
      obtain ⟨x, hx⟩ : ∃ x, L0[i]? = some x := ⟨L0[i], List.getElem?_eq_getElem hin⟩
      have hxs := hsts.out x (List.mem_of_getElem? hx)
      obtain ⟨s0, s1, s2⟩ := hpc.out i x hx
      replace s0 := (hbl.cell (p := ⟨pb, po + i * 3, none⟩) hpl).trans s0
      replace s1 := (hbl.cell (p := ⟨pb, po + i * 3 + 1, none⟩) hpl).trans s1
      replace s2 := (hbl.cell (p := ⟨pb, po + i * 3 + 2, none⟩) hpl).trans s2
      obtain ⟨xd, xs, xg⟩ := x
      simp only at s0 s1 s2 hxs
      clear hx
      by_cases hso : xs = a1
      · have q : (xs == a1) = true := by simp [hso]
        replace hso : Hid _ := hso
        go_wp2
        refine ⟨⟨i + 1, by simp, by omega, hAp.below ((Below.refl _ wr).alloc (Nat.le_refl _) _) (by omega) (by omega), hbl.alloc (by have := hB0.out; have := hbl.size; omega) _⟩, by simp [valOf]; omega⟩
      · have q : (xs == a1) = false := by simp [hso]
        go_upto_region 9 with fail
        have hz := heap_alloc_new wr (.cells #[.bool xd, .int .i64 xs, .int .u64 xg] 32)
        have hA2 := hAp.below ((Below.refl _ wr).alloc (Nat.le_refl _) (.cells #[.bool xd, .int .i64 xs, .int .u64 xg] 32)) (Nat.le_refl _) (by omega)
        have hb2 := hbl.alloc (by have := hB0.out; have := hbl.size; omega) (.cells #[.bool xd, .int .i64 xs, .int .u64 xg] 32)
        clear hbl s0 s1 s2
        generalize wr.alloc (.cells #[.bool xd, .int .i64 xs, .int .u64 xg] 32) = W at hz hA2 hb2 ⊢
        have hzs : S + 2 < wr.heap.size := by obtain ⟨Na, La, Nb, Lb, h1, h2, h3, h4⟩ := hAp.ex; exact heap_lt h2.cells
        clear hAp
        generalize wr.heap.size = z at hz hzs ⊢
        go_wp2
        go_loopw [11] (fun n2 wk => ∃ k : Nat, n2 = .int .i64 k ∧ (k : Int) ≤ a2 % 4 ∧ Ap wk B (B + 2) B (B + 1) (S + 2) S (S + 1) a1 (5 * i + k) ∧ Below B w wk ∧ wk.heap[z]? = some (.cells #[.bool xd, .int .i64 xs, .int .u64 xg] 32 (0, 0)) ∧ S + 2 < z) (fun n2 _ => 4 - (valOf n2).toNat)
        case atStart => exact ⟨0, rfl, by omega, hA2, hb2, hz, hzs⟩
        case round =>
          obtain ⟨k, rfl, hk, hAp, hbl, hz, hzs⟩ := hrel
          obtain ⟨Na, La, Nb, Lb, hTa, hTb, hkk, hon⟩ := hAp.ex
          by_cases hkm : (k : Int) < a2 % 4
          · have dk : decide ((k : Int) < a2 % 4) = true := by simp; omega
            have e8 : IntKind.i64.wrap ((k : Int) + 1) = (k : Int) + 1 := IntWalk.i64_in _ (by omega)
            have k1 := make_ok wr _ _ _ _ _ _ _ hTb a1 (by omega) hw1 hon (by omega)
            generalize hg : Nb a1 + 1 = g at k1
            replace hg : Hid _ := hg
            unfold hdV at k1
            go_upto_region 13 with (go_at_call 11; refine k1.mono ?_; rintro e v1 ⟨rfl, hTb1, hF1⟩)
            have nb1 := hTb1.nm
            have y1 := heap_alloc_new v1 (.cells #[.int .i64 a1, .int .u64 g] 34)
            have z1 := heap_al (hF1.at hz (by omega) (by omega)) (.cells #[.int .i64 a1, .int .u64 g] 34)
            have hTb2 := hTb1.alloc (.cells #[.int .i64 a1, .int .u64 g] 34)
            have hTa2 := (hTa.other hF1 (by omega) (by omega) (by omega)).alloc (.cells #[.int .i64 a1, .int .u64 g] 34)
            have hb2 := (hbl.trans hF1.bel).alloc hTb1.size (.cells #[.int .i64 a1, .int .u64 g] 34)
            clear k1
            generalize v1.alloc (.cells #[.int .i64 a1, .int .u64 g] 34) = v2 at y1 z1 hTb2 hTa2 hb2 ⊢
            generalize v1.heap.size = q at y1 nb1 ⊢
            have y10 := cell_of y1 0
            have y11 := cell_of y1 1
            simp at y10 y11
            have k2 := drop_ok v2 _ _ _ _ _ _ _ hTb2 a1 g (by simp [updL])
            go_wp2_with (go_at_call 9; refine k2.mono ?_; rintro e v3 ⟨rfl, hTb3, hF3⟩)
            have hAp3 : Ap v3 B (B + 2) B (B + 1) (S + 2) S (S + 1) a1 (5 * i + (k + 1)) := by
              have hTa3 := hTa2.other hF3 (by omega) (by omega) (by omega)
              refine ⟨_, _, _, _, hTa3.mono (by omega) (by omega), hTb3.mono (by omega) (by omega), fun k' hk' => ?_, by simp [updL]⟩
              have := hkk k' hk'
              simp [updN, updL, hk', this]
            refine ⟨⟨k + 1, by simp, by omega, hAp3, hb2.trans hF3.bel, hF3.at z1 (by omega) (by omega), hzs⟩, by simp [valOf]; omega⟩
          · have dk : decide ((k : Int) < a2 % 4) = false := by simp; omega
            have x0 := cell_of hz 0
            have x1 := cell_of hz 1
            have x2 := cell_of hz 2
            simp at x0 x1 x2
            have z1 := heap_al hz (.cells #[.int .i64 xs, .int .u64 xg] 34)
            have x00 := cell_of z1 0
            have x01 := cell_of z1 1
            simp at x00 x01
            have y1 := heap_alloc_new wr (.cells #[.int .i64 xs, .int .u64 xg] 34)
            have hTa2 := hTa.alloc (.cells #[.int .i64 xs, .int .u64 xg] 34)
            have hTb2 := hTb.alloc (.cells #[.int .i64 xs, .int .u64 xg] 34)
            have hb2 := hbl.alloc (by have := hB0.out; have := hbl.size; omega) (.cells #[.int .i64 xs, .int .u64 xg] 34)
            have hzl : z < wr.heap.size := heap_lt hz
            have hks := hkk xs hso
            cases xd with
            | true =>
              go_upto_region 16 with fail
              clear x0 x1 x2 x00 x01 z1
              generalize wr.alloc (.cells #[.int .i64 xs, .int .u64 xg] 34) = W2 at y1 hTa2 hTb2 hb2 ⊢
              generalize wr.heap.size = q at y1 hzl ⊢
              have q0 := cell_of y1 0
              have q1 := cell_of y1 1
              simp at q0 q1
              have eD : drE Lb xs xg = drE La xs xg := by simp [drE, hks.2]
              have ka := drop_any W2.drew _ _ _ _ _ _ _ hTa2.drew xs xg
              generalize hdE : drE La xs xg = dE at ka eD
              replace hdE : Hid _ := hdE
              replace eD : Hid _ := eD
              have dd : (dE == dE) = true := by simp
              go_region_held3 (fun w' => w'.cell? ⟨q, 0, none⟩ = some (.int .i64 xs) ∧ w'.cell? ⟨q, 1, none⟩ = some (.int .u64 xg)) ((refine ⟨?_, ?_⟩ <;> repeat (with_reducible (first | assumption | apply cell_dr)))) (first
                | (go_at_call 9; refine kb.mono ?_; rintro e v2 ⟨rfl, hTb3, hF4⟩; have y3 := hF4.at (z := q) y2 (by omega) (by omega); have t0 : v2.cell? ⟨q, 0, none⟩ = some (.int .i64 xs) := (by rw [cell_of y3]; rfl); have t1 : v2.cell? ⟨q, 1, none⟩ = some (.int .u64 xg) := (by rw [cell_of y3]; rfl))
                | (go_at_call 9; refine ka.mono ?_; rintro e v1 ⟨rfl, hTa3, hF3⟩; have y2 := hF3.at (z := q) y1 (by omega) (by omega); have r0 : v1.cell? ⟨q, 0, none⟩ = some (.int .i64 xs) := (by rw [cell_of y2]; rfl); have r1 : v1.cell? ⟨q, 1, none⟩ = some (.int .u64 xg) := (by rw [cell_of y2]; rfl); have kb := drop_any v1 _ _ _ _ _ _ _ (hTb2.drew.other hF3 (by omega) (by omega) (by omega)) xs xg; rw [eD.out] at kb))
              all_goals go_wp2
              all_goals
                have hAp5 : Ap v2 B (B + 2) B (B + 1) (S + 2) S (S + 1) a1 (5 * (i + 1)) := by
                  refine ⟨_, _, _, _, (hTa3.other hF4 (by omega) (by omega) (by omega)).mono (by omega) (by omega), hTb3.mono (by omega) (by omega), fun k' hk' => ?_, ?_⟩
                  · have := hkk k' hk'
                    exact ⟨this.1, drL_at hks.2.symm this.2⟩
                  · exact drL_none hon
                exact ⟨⟨i + 1, by simp, by omega, hAp5, (hb2.drew.trans hF3.bel).trans hF4.bel⟩, by simp [valOf]; omega⟩
            | false =>
              go_upto_region 18 with fail
              clear x0 x1 x2 x00
              generalize wr.alloc (.cells #[.int .i64 xs, .int .u64 xg] 34) = W2 at z1 y1 hTa2 hTb2 hb2 x01 ⊢
              generalize wr.heap.size = q at y1 hzl ⊢
              have eM := mk_same (N := Na) (N' := Nb) hks.2.symm hks.1.symm
              have ka := make_any W2 _ _ _ _ _ _ _ hTa2 xs hxs (by omega)
              generalize hmS : mkS La xs = mS at ka eM
              generalize hmG : mkG Na La xs = mG at ka eM
              generalize hmE : mkE La xs = mE at ka eM
              replace hmS : Hid _ := hmS
              replace hmG : Hid _ := hmG
              replace hmE : Hid _ := hmE
              replace eM : Hid _ := eM
              go_upto_region 19 with (go_at_call 11; refine ka.mono ?_; rintro e v1 ⟨rfl, hTa3, hF3⟩)
              have hTb3 := (hTb2.other hF3 (by omega) (by omega) (by omega)).alloc (.cells #[.int .i64 mS, .int .u64 mG] 34)
              have hTa4 := hTa3.alloc (.cells #[.int .i64 mS, .int .u64 mG] 34)
              have z2 := heap_al (hF3.at z1 (by omega) (by omega)) (.cells #[.int .i64 mS, .int .u64 mG] 34)
              have y2 := heap_alloc_new v1 (.cells #[.int .i64 mS, .int .u64 mG] 34)
              have hb3 := (hb2.trans hF3.bel).alloc hTa3.size (.cells #[.int .i64 mS, .int .u64 mG] 34)
              have nv1 := hTb3.nm
              have nv2 := hTa3.nm
              have nv3 := heap_lt (hTb2.other hF3 (by omega) (by omega) (by omega)).cells
              clear ka x01
              generalize v1.alloc (.cells #[.int .i64 mS, .int .u64 mG] 34) = v2 at hTb3 hTa4 z2 y2 hb3 nv1 ⊢
              generalize v1.heap.size = q2 at y2 nv2 nv3 ⊢
              have x21 := cell_of z2 1
              simp at x21
              have kb := make_any v2 _ _ _ _ _ _ _ hTb3 xs hxs (by omega)
              rw [eM.out.1, eM.out.2.1, eM.out.2.2] at kb
              go_upto_region 20 with (go_at_call 11; refine kb.mono ?_; rintro e v3 ⟨rfl, hTb4, hF4⟩)
              have y3 := heap_al (hF4.at y2 (by omega) (by omega)) (.cells #[.int .i64 mS, .int .u64 mG] 34)
              have y4 := heap_alloc_new v3 (.cells #[.int .i64 mS, .int .u64 mG] 34)
              have hAp5 : Ap (v3.alloc (.cells #[.int .i64 mS, .int .u64 mG] 34)) B (B + 2) B (B + 1) (S + 2) S (S + 1) a1 (5 * (i + 1)) := by
                refine ⟨_, _, _, _, ((hTa4.other hF4 (by omega) (by omega) (by omega)).alloc _).mono (by omega) (by omega), (hTb4.alloc _).mono (by omega) (by omega), fun k' hk' => ?_, ?_⟩
                · have := hkk k' hk'
                  exact ⟨mkN_at hks.2.symm hks.1.symm this.1, mkL_at hks.2.symm hks.1.symm this.2⟩
                · rw [mkL_other (Ne.symm hso)]; exact hon
              have hb5 := (hb3.trans hF4.bel).alloc hTb4.size (.cells #[.int .i64 mS, .int .u64 mG] 34)
              clear kb x21
              generalize v3.alloc (.cells #[.int .i64 mS, .int .u64 mG] 34) = v4 at y3 y4 hAp5 hb5 ⊢
              generalize v3.heap.size = q3 at y4 ⊢
              have u0 := cell_of y3 0
              have u1 := cell_of y3 1
              have t0 := cell_of y4 0
              have t1 := cell_of y4 1
              simp at u0 u1 t0 t1
              have nq := fun W => neqH mS mS mG mG W
              simp only [beq_self_eq_true, Bool.and_self, Bool.not_true] at nq
              have dd : (mE == mE) = true := by simp
              go_wp2
              refine ⟨⟨i + 1, by simp, by omega, hAp5, hb5⟩, by simp [valOf]; omega⟩
    · have d : decide ((i : Int) < L0.length) = false := by simp; omega
      go_wp2_with (go_at_call 7; refine (kw _).mono ?_; rintro e w3 ⟨rfl, hb⟩)
      all_goals go_returns
      have hB1 := hB0.out
      have h1 := hbl.size
      rw [hB1]
      exact ⟨rfl, hbl.trans (hb.mono (by omega))⟩

theorem readable : ∀ t ∈ Try.f5.params.toList, Try.prog.readableRec t = true ∧ t < Try.prog.types.size := by
  rw [Try.params5]
  intro t ht
  simp at ht
  rcases ht with rfl | rfl | rfl
  all_goals exact ⟨by kernel_rfl, of_decide_eq_true (by kernel_rfl)⟩
set_option maxRecDepth 100000 in
theorem lifted (os : Os) (started : os.Started) (H : Type) (enc : TypeId × Value → H) :
    ReturnsInHanded {} Try.checked os 5 .any (Rows.handleApartSpec.pre6 enc Try.prog Try.f5 Rows.handleApartRow.domain false) (Rows.handleApartSpec.post enc Try.prog Try.f5 false true false false) := by
  refine returnsInHanded_of_change (C := Try.checked) own started (by kernel_rfl) Try.func5
    (ChangeSpec.witness6 (enc := enc) (C := Try.checked) false ⟨#[], #[.slice none 0 0, .int .i64 0, .int .u8 0], []⟩ 8 (by kernel_rfl) (by kernel_rfl) (by kernel_rfl) (by kernel_rfl)) ?_
  intro W base args ds gs before hval0 hW hcnd _
  have hval : ∀ (j : Nat) t v, Try.f5.params[j]? = some t → args[j]? = some v → Value.okWide Try.prog W .any base t v := hval0
  have hW' := hW
  obtain ⟨p, q, hA0, hV, rfl, hfz, hnd⟩ := hW
  have hA : DataW.TrodAll enc Try.prog W 0 (fun _ => true) true Try.f5.params.toList args.toList ds p := hA0
  rw [Try.params5] at hA hval
  obtain ⟨v0, vs0, d0, ds0, p0, q0, hargs, rfl, rfl, h0, r0⟩ := trodAll_cons hA
  obtain ⟨v1, vs1, d1, ds1, p1, q1, rfl, rfl, rfl, h1, r1⟩ := trodAll_cons r0
  obtain ⟨v2, vs2, d2, ds2, p2, q2, rfl, rfl, rfl, h2, r2⟩ := trodAll_cons r1
  obtain ⟨rfl, rfl, rfl⟩ := trodAll_nil r2
  obtain rfl : args = #[v0, v1, v2] := by cases args; simp_all
  obtain ⟨rfl, rfl⟩ := trodVars_none hV
  obtain ⟨p0, L0, c0, rfl, hL0⟩ := open_sts (hval 0 22 v0 rfl rfl) h0
  obtain ⟨a1, rfl, rfl, rfl, w1⟩ := open_int Try.underlying3 (hval 1 3 v1 rfl rfl) h1
  obtain ⟨a2, rfl, rfl, rfl, w2⟩ := open_int Try.underlying5 (hval 2 5 v2 rfl rfl) h2
  clear hA0 hval0
  refine (walk p0 L0 c0 a1 a2 W hL0 w1 w2).mono fun e W' ⟨he, hg⟩ => ?_
  subst he
  exact ⟨_, rfl, post_bel readable hW' rfl (fun _ _ _ => (trodAll_cons_mk (shut_bool Try.underlying4 _) trodAll_mk0)) rfl (fun _ => rfl)
    hg (ok_one (by kernel_rfl) rfl (okWide_bool_mk Try.underlying4 _))⟩

theorem over : Rows.handleApartRow.holds Try.pinned (OpenSpec.ofChange Rows.handleApartSpec) :=
  OpenClaim.holds_of_wide 5 Try.f5 rfl rfl rfl rfl rfl rfl rfl ⟨rfl, rfl, rfl, rfl, rfl⟩ rfl rfl rfl rfl rfl (by kernel_rfl) Try.func5 (by kernel_rfl)
    (of_decide_eq_true (by kernel_rfl)) (by unfold Func.isWrapper; first | (rw [if_pos (by decide +kernel)]; kernel_rfl) | (rw [if_neg (by decide +kernel)]; exact ⟨rfl, rfl⟩))
    (fun os started H enc _ => lifted os started H enc)

theorem proved : Rows.HandleApartSaid :=
  over
end Go.Proofs.Ytilohnmaaofipaa.handleApart
namespace Go.Proofs.Ytilohnmaaofipaa
theorem handleApart_holds : Rows.HandleApartSaid :=
  handleApart.proved
#print axioms handleApart_holds
end Go.Proofs.Ytilohnmaaofipaa
