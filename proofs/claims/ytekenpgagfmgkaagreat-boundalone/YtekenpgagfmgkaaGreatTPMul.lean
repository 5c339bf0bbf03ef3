/- Towards the statements of package tnum (layer 3): the product of the program, for every two sets of which the first may be. -/
import Derived.Test.YtekenpgagfmgkaaGreatTBlocks
namespace Go.Proofs.YtekenpgagfmgkaaGreat.Tn
open Go.ChangeShapes Go.WideShapes Go.ChangeAt Go.RowKit
set_option linter.unusedVariables false
set_option maxRecDepth 20000

theorem pbit_lit (x : BitVec 64) (k : Nat) : bits .and .u64 (iv (x >>> k)) 1 = if x.getLsbD k then 1 else 0 := by
  rw [iv_and1, bit_val]
  cases x.getLsbD k <;> rfl
theorem padd_m (tm bm : BitVec 64) (z : Int) (hz : z = iv 0#64) (w : World) : Calls Tryz.prog 177 #[.agg #[.int .u64 (iv 0#64), .int .u64 (iv tm)], .agg #[.int .u64 z, .int .u64 (iv bm)]] w fun e w' => e = .returned (.agg #[.int .u64 (iv 0#64), .int .u64 (iv (Tn.addU 0#64 tm 0#64 bm))]) ∧ Gr w w' := by
  subst hz
  have := add_any 0#64 tm 0#64 bm w
  rw [Tn.addV_zero] at this
  exact this
theorem padd_v (tm x : BitVec 64) (z : Int) (hz : z = iv 0#64) (w : World) : Calls Tryz.prog 177 #[.agg #[.int .u64 (iv 0#64), .int .u64 (iv tm)], .agg #[.int .u64 (iv x), .int .u64 z]] w fun e w' => e = .returned (.agg #[.int .u64 (iv (Tn.addV 0#64 tm x 0#64)), .int .u64 (iv (Tn.addU 0#64 tm x 0#64))]) ∧ Gr w w' := by
  subst hz
  exact add_any 0#64 tm x 0#64 w
theorem pmulM_0 {av am : BitVec 64} (bv bm : BitVec 64) {k : Nat} (h : Tn.bitT av am k = 0) : Tn.mulM av am bv bm (k + 1) = Tn.mulM av am bv bm k := by
  unfold Tn.bitT at h
  rw [Tn.mulM]
  cases h1 : am.getLsbD k <;> cases h2 : av.getLsbD k <;> rw [h1, h2] at h <;> first | rfl | cases h
theorem pmulM_1 {av am : BitVec 64} (bv bm : BitVec 64) {k : Nat} (h : Tn.bitT av am k = 1) : Tn.mulM av am bv bm (k + 1) = Tn.addU 0#64 (Tn.mulM av am bv bm k) 0#64 (bm <<< k) := by
  unfold Tn.bitT at h
  rw [Tn.mulM]
  cases h1 : am.getLsbD k <;> cases h2 : av.getLsbD k <;> rw [h1, h2] at h <;> first | rfl | cases h
theorem pmulM_2 {av am : BitVec 64} (bv bm : BitVec 64) {k : Nat} (h : Tn.bitT av am k = 2) : Tn.mulM av am bv bm (k + 1) = Tn.addU 0#64 (Tn.mulM av am bv bm k) 0#64 ((bv ||| bm) <<< k) := by
  unfold Tn.bitT at h
  rw [Tn.mulM]
  cases h1 : am.getLsbD k <;> cases h2 : av.getLsbD k <;> rw [h1, h2] at h <;> first | rfl | cases h
theorem mulM_rest {av am : BitVec 64} (bv bm : BitVec 64) {k : Nat} (h : ∀ j, k ≤ j → Tn.bitT av am j = 0) : ∀ d, Tn.mulM av am bv bm (k + d) = Tn.mulM av am bv bm k
  | 0 => rfl
  | d + 1 => by rw [← Nat.add_assoc, pmulM_0 bv bm (h (k + d) (by omega)), mulM_rest bv bm h d]
theorem rest_zero {av am : BitVec 64} {k : Nat} (h : (bits .or .u64 (iv (av >>> k)) (iv (am >>> k)) == 0) = true) (j : Nat) (hj : k ≤ j) : Tn.bitT av am j = 0 := by
  rw [iv_or, iv_eq0, beq_iff_eq] at h
  have e : (av >>> k ||| am >>> k).getLsbD (j - k) = false := by rw [h]; simp
  rw [BitVec.getLsbD_or, BitVec.getLsbD_ushiftRight, BitVec.getLsbD_ushiftRight, show k + (j - k) = j by omega, Bool.or_eq_false_iff] at e
  rw [Tn.bitT, e.1, e.2]; rfl
theorem const_gr (v : BitVec 64) (w : World) : Calls Tryz.prog 46 #[.int .u64 (iv v)] w fun e w' => e = .returned (.agg #[.int .u64 (iv v), .int .u64 0]) ∧ Gr w w' := by
  refine (const_any v w).mono ?_
  rintro e w' ⟨rfl, rfl⟩
  exact ⟨rfl, (Gr.refl w).alloc _ _⟩
set_option maxHeartbeats 4000000 in
theorem mul_any (av am bv bm : BitVec 64) (oa : Hid (Tn.Ok av am)) (w : World) : Calls Tryz.prog 185 #[.agg #[.int .u64 (iv av), .int .u64 (iv am)], .agg #[.int .u64 (iv bv), .int .u64 (iv bm)]] w fun e w' => e = .returned (.agg #[.int .u64 (iv (Tn.mulV av am bv bm)), .int .u64 (iv (Tn.mulU av am bv bm))]) ∧ Gr w w' := by
  unfold Tn.mulV Tn.mulU
  go_enter Tryz.func185, Tryz.ntmps185
  go_wp2_with fail
  go_step3
  go_wp2_with fail
  go_step3
  go_wp2_with fail
  go_loopw [9] (fun i wr => ∃ k : Nat, k ≤ 64 ∧ i = .int .i64 k ∧ At wr w.heap.size av am ∧ At wr (w.heap.size + 1) bv bm ∧ At wr (w.heap.size + 1 + 1) 0#64 0#64 ∧ At wr (w.heap.size + 1 + 1 + 1) 0#64 (Tn.mulM av am bv bm k) ∧ Gr w wr) (fun i _ => 64 - (intOf i).toNat)
  case atStart => exact ⟨0, by omega, rfl, ((((At.newb _ (by simp) av am).alloc _).alloc _).alloc _), (((At.newb _ (by simp) bv bm).alloc _).alloc _), ((At.newz _ (by simp)).alloc _), (At.newz _ (by simp)), by go_grown, by go_grown⟩
  case round =>
    obtain ⟨k, hk, rfl, h0, h1, h2, h3, hg⟩ := hrel
    have H0 : Hid (At wr w.heap.size av am) := h0
    have H1 : Hid (At wr (w.heap.size + 1) bv bm) := h1
    have H2 : Hid (At wr (w.heap.size + 1 + 1) 0#64 0#64) := h2
    have H3 : Hid (At wr (w.heap.size + 1 + 1 + 1) 0#64 (Tn.mulM av am bv bm k)) := h3
    have HG : Hid (Gr w wr) := hg
    clear h0 h1 h2 h3 hg
    by_cases hlt : k < 64
    · have r0 := @iv_shr
      have d1 : decide ((k : Int) < 64) = true := by simp; omega
      have hk0 : (0 : Int) ≤ k := by omega
      have hkd : decide ((k : Int) < 0) = false := by simp
      have d00 := (H0.out.drew).c0
      have d01 := (H0.out.drew).c1
      have c00 := H0.out.c0
      have c01 := H0.out.c1
      cases hz : (bits .or .u64 (iv (av >>> k)) (iv (am >>> k)) == 0)
      · have qa := pbit_lit av k
        have qm := pbit_lit am k
        cases ha : av.getLsbD k
        · cases hm : am.getLsbD k
          · have HE : Hid (Tn.bitT av am k = 0) := by rw [Tn.bitT, ha, hm]; rfl
            rw [ha] at qa
            rw [hm] at qm
            replace qa : bits .and .u64 (iv (av >>> k)) 1 = 0 := qa
            replace qm : bits .and .u64 (iv (am >>> k)) 1 = 0 := qm
            clear ha hm
            go_wp2_with fail
            go_region
            go_wp2
            go_roundw
            case rel => exact ⟨k + 1, by omega, by go_num, H0.out.drew, H1.out.drew, H2.out.drew, (by rw [pmulM_0 bv bm HE.out]; exact H3.out.drew), HG.out.drew⟩
            case measure => simp [intOf]; omega
          · have HE : Hid (Tn.bitT av am k = 2) := by rw [Tn.bitT, ha, hm]; rfl
            rw [ha] at qa
            rw [hm] at qm
            replace qa : bits .and .u64 (iv (av >>> k)) 1 = 0 := qa
            replace qm : bits .and .u64 (iv (am >>> k)) 1 = 1 := qm
            clear ha hm
            go_wp2_with fail
            go_region
            have rs := @iv_shl
            have ro := iv_or bv bm
            have d10 := (H1.out.gr ((Gr.refl wr).drew.drew)).c0
            have d11 := (H1.out.gr ((Gr.refl wr).drew.drew)).c1
            have d30 := (H3.out.gr ((Gr.refl wr).drew.drew)).c0
            have d31 := (H3.out.gr ((Gr.refl wr).drew.drew)).c1
            go_wp2_with fail
            go_region_with (first
              | (go_at_call 177; refine (padd_m _ _ 0 iv_zero.symm _).mono ?_; rintro e w2 ⟨rfl, hh2⟩; have hx := H3.out.gr (((Gr.refl wr).drew.drew).trans hh2); replace c30 := hx.c0; replace c31 := hx.c1; replace f30 := hx.f0 0; replace f31 := hx.f0 1; clear hx))
            all_goals go_wp2
            all_goals go_roundw
            all_goals (first
              | exact ⟨k + 1, by omega, by go_num, (((H0.out.gr (((Gr.refl wr).drew.drew).trans hh2)).other (by omega) _).other (by omega) _), (((H1.out.gr (((Gr.refl wr).drew.drew).trans hh2)).other (by omega) _).other (by omega) _), (((H2.out.gr (((Gr.refl wr).drew.drew).trans hh2)).other (by omega) _).other (by omega) _), (by rw [pmulM_2 bv bm HE.out]; exact (H3.out.gr (((Gr.refl wr).drew.drew).trans hh2)).set _ _), ((HG.out.trans (((Gr.refl wr).drew.drew).trans hh2)).set (by omega) _).set (by omega) _⟩
              | (simp [intOf]; omega))
        · have hm : am.getLsbD k = false := by
            cases hm : am.getLsbD k
            · rfl
            · have := oa.out k hlt hm; rw [ha] at this; cases this
          have HE : Hid (Tn.bitT av am k = 1) := by rw [Tn.bitT, ha, hm]; rfl
          rw [ha] at qa
          rw [hm] at qm
          replace qa : bits .and .u64 (iv (av >>> k)) 1 = 1 := qa
          replace qm : bits .and .u64 (iv (am >>> k)) 1 = 0 := qm
          clear ha hm
          go_wp2_with fail
          go_region
          have rs := @iv_shl
          have d10 := (H1.out.gr ((Gr.refl wr).drew.drew)).c0
          have d11 := (H1.out.gr ((Gr.refl wr).drew.drew)).c1
          have d30 := (H3.out.gr ((Gr.refl wr).drew.drew)).c0
          have d31 := (H3.out.gr ((Gr.refl wr).drew.drew)).c1
          go_wp2_with fail
          go_region_with (first
            | (go_at_call 177; refine (padd_m _ _ 0 iv_zero.symm _).mono ?_; rintro e w2 ⟨rfl, hh2⟩; have hx := H3.out.gr (((Gr.refl wr).drew.drew).trans hh2); replace c30 := hx.c0; replace c31 := hx.c1; replace f30 := hx.f0 0; replace f31 := hx.f0 1; clear hx))
          all_goals go_wp2
          all_goals go_roundw
          all_goals (first
            | exact ⟨k + 1, by omega, by go_num, (((H0.out.gr (((Gr.refl wr).drew.drew).trans hh2)).other (by omega) _).other (by omega) _), (((H1.out.gr (((Gr.refl wr).drew.drew).trans hh2)).other (by omega) _).other (by omega) _), (((H2.out.gr (((Gr.refl wr).drew.drew).trans hh2)).other (by omega) _).other (by omega) _), (by rw [pmulM_1 bv bm HE.out]; exact (H3.out.gr (((Gr.refl wr).drew.drew).trans hh2)).set _ _), ((HG.out.trans (((Gr.refl wr).drew.drew).trans hh2)).set (by omega) _).set (by omega) _⟩
            | (simp [intOf]; omega))
      · have HZ : Hid (Tn.mulM av am bv bm 64 = Tn.mulM av am bv bm k) := by
          have := mulM_rest bv bm (rest_zero hz) (64 - k)
          rw [show k + (64 - k) = 64 by omega] at this
          exact this
        go_wp2_with fail
        go_region
        go_wp2_with fail
        have rm := iv_mul av bv
        have d00 := (H0.out.gr ((Gr.refl wr).drew.drew)).c0
        have d01 := (H0.out.gr ((Gr.refl wr).drew.drew)).c1
        have d10 := (H1.out.gr ((Gr.refl wr).drew.drew)).c0
        have d11 := (H1.out.gr ((Gr.refl wr).drew.drew)).c1
        have d30 := (H3.out.gr ((Gr.refl wr).drew.drew)).c0
        have d31 := (H3.out.gr ((Gr.refl wr).drew.drew)).c1
        go_wp2_with fail
        go_region_with (first
          | (go_at_call 46; refine (const_gr _ _).mono ?_; rintro e w1 ⟨rfl, hh1⟩; have hx := H3.out.gr (((Gr.refl wr).drew.drew).trans hh1); replace c30 := hx.c0; replace c31 := hx.c1; clear hx)
          | (go_at_call 177; refine (padd_v _ _ 0 iv_zero.symm _).mono ?_; rintro e w2 ⟨rfl, hh2⟩; have hx := H2.out.gr (((Gr.refl wr).drew.drew).trans (hh1.trans hh2)); replace c20 := hx.c0; replace c21 := hx.c1; replace f20 := hx.f0 0; replace f21 := hx.f0 1; clear hx; have e0 := ((H2.out.gr (((Gr.refl wr).drew.drew).trans (hh1.trans hh2))).set (Tn.addV 0#64 (Tn.mulM av am bv bm k) (av * bv) 0#64) (Tn.addU 0#64 (Tn.mulM av am bv bm k) (av * bv) 0#64)).c0; have e1 := ((H2.out.gr (((Gr.refl wr).drew.drew).trans (hh1.trans hh2))).set (Tn.addV 0#64 (Tn.mulM av am bv bm k) (av * bv) 0#64) (Tn.addU 0#64 (Tn.mulM av am bv bm k) (av * bv) 0#64)).c1))
        all_goals (try go_wp2)
        all_goals (try rw [Exit.noGoto_ret])
        all_goals (refine bodyPost_ret (by simp [results, Tryz.results185, go_sem, e0, e1]; try rfl) rfl ?_)
        all_goals exact ⟨by rw [HZ.out], ((HG.out.trans (((Gr.refl wr).drew.drew).trans (hh1.trans hh2))).set (by omega) _).set (by omega) _⟩
    · obtain rfl : k = 64 := by omega
      have rm := iv_mul av bv
      have d00 := (H0.out.gr ((Gr.refl wr).drew)).c0
      have d01 := (H0.out.gr ((Gr.refl wr).drew)).c1
      have d10 := (H1.out.gr ((Gr.refl wr).drew)).c0
      have d11 := (H1.out.gr ((Gr.refl wr).drew)).c1
      have d30 := (H3.out.gr ((Gr.refl wr).drew)).c0
      have d31 := (H3.out.gr ((Gr.refl wr).drew)).c1
      go_wp2_with fail
      go_region_with (first
        | (go_at_call 46; refine (const_gr _ _).mono ?_; rintro e w1 ⟨rfl, hh1⟩; have hx := H3.out.gr (((Gr.refl wr).drew).trans hh1); replace c30 := hx.c0; replace c31 := hx.c1; clear hx)
        | (go_at_call 177; refine (padd_v _ _ 0 iv_zero.symm _).mono ?_; rintro e w2 ⟨rfl, hh2⟩; have hx := H2.out.gr (((Gr.refl wr).drew).trans (hh1.trans hh2)); replace c20 := hx.c0; replace c21 := hx.c1; replace f20 := hx.f0 0; replace f21 := hx.f0 1; clear hx; have e0 := ((H2.out.gr (((Gr.refl wr).drew).trans (hh1.trans hh2))).set (Tn.addV 0#64 (Tn.mulM av am bv bm 64) (av * bv) 0#64) (Tn.addU 0#64 (Tn.mulM av am bv bm 64) (av * bv) 0#64)).c0; have e1 := ((H2.out.gr (((Gr.refl wr).drew).trans (hh1.trans hh2))).set (Tn.addV 0#64 (Tn.mulM av am bv bm 64) (av * bv) 0#64) (Tn.addU 0#64 (Tn.mulM av am bv bm 64) (av * bv) 0#64)).c1))
      all_goals (try go_wp2)
      all_goals (try rw [Exit.noGoto_ret])
      all_goals (refine bodyPost_ret (by simp [results, Tryz.results185, go_sem, e0, e1]; try rfl) rfl ?_)
      all_goals exact ⟨rfl, ((HG.out.trans (((Gr.refl wr).drew).trans (hh1.trans hh2))).set (by omega) _).set (by omega) _⟩

end Go.Proofs.YtekenpgagfmgkaaGreat.Tn
