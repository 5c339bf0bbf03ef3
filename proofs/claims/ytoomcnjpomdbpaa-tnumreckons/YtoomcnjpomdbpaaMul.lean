/- Towards the statements of package tnum (layer 3): products: the document's Add, Sub and Mul, and the program's Mul, for every two sets. -/
import Derived.Test.YtoomcnjpomdbpaaBits
import Derived.Deep.LoopGhost
namespace Go.Proofs.Ytoomcnjpomdbpaa
open Go.ChangeShapes Go.WideShapes Go.ChangeAt Go.RowKit
set_option linter.unusedVariables false
set_option maxRecDepth 20000

theorem radd_any (av am bv bm : BitVec 64) (w : World) : Calls Try.prog 26 #[.agg #[.int .u64 (iv av), .int .u64 (iv am)], .agg #[.int .u64 (iv bv), .int .u64 (iv bm)]] w fun e w' => e = .returned (.agg #[.int .u64 (iv (Tn.addV av am bv bm)), .int .u64 (iv (Tn.addU av am bv bm))]) ∧ Gr w w' := by
  have r0 := @iv_xor
  have r1 := @iv_or
  have r2 := @iv_add
  have r3 := @iv_andNot
  go_enter Try.func26, Try.ntmps26
  go_wp2
  go_region
  go_wp2
  go_returns
  exact ⟨rfl, by go_grown, by go_grown⟩
theorem rsub_any (av am bv bm : BitVec 64) (w : World) : Calls Try.prog 28 #[.agg #[.int .u64 (iv av), .int .u64 (iv am)], .agg #[.int .u64 (iv bv), .int .u64 (iv bm)]] w fun e w' => e = .returned (.agg #[.int .u64 (iv (Tn.subV av am bv bm)), .int .u64 (iv (Tn.subU av am bv bm))]) ∧ Gr w w' := by
  have r0 := @iv_xor
  have r1 := @iv_or
  have r2 := @iv_add
  have r3 := @iv_sub
  have r4 := @iv_andNot
  go_enter Try.func28, Try.ntmps28
  go_wp2
  go_returns
  exact ⟨rfl, by go_grown, by go_grown⟩
theorem radd_m (tm bm : BitVec 64) (z : Int) (hz : z = iv 0#64) (w : World) : Calls Try.prog 26 #[.agg #[.int .u64 (iv 0#64), .int .u64 (iv tm)], .agg #[.int .u64 z, .int .u64 (iv bm)]] w fun e w' => e = .returned (.agg #[.int .u64 (iv 0#64), .int .u64 (iv (Tn.addU 0#64 tm 0#64 bm))]) ∧ Gr w w' := by
  subst hz
  have := radd_any 0#64 tm 0#64 bm w
  rw [Tn.addV_zero] at this
  exact this
theorem radd_v (tm x : BitVec 64) (z : Int) (hz : z = iv 0#64) (w : World) : Calls Try.prog 26 #[.agg #[.int .u64 (iv 0#64), .int .u64 (iv tm)], .agg #[.int .u64 (iv x), .int .u64 z]] w fun e w' => e = .returned (.agg #[.int .u64 (iv (Tn.addV 0#64 tm x 0#64)), .int .u64 (iv (Tn.addU 0#64 tm x 0#64))]) ∧ Gr w w' := by
  subst hz
  exact radd_any 0#64 tm x 0#64 w
theorem add_m (tm bm : BitVec 64) (z : Int) (hz : z = iv 0#64) (w : World) : Calls Try.prog 25 #[.agg #[.int .u64 (iv 0#64), .int .u64 (iv tm)], .agg #[.int .u64 z, .int .u64 (iv bm)]] w fun e w' => e = .returned (.agg #[.int .u64 (iv 0#64), .int .u64 (iv (Tn.addU 0#64 tm 0#64 bm))]) ∧ Gr w w' := by
  subst hz
  have := add_any 0#64 tm 0#64 bm w
  rw [Tn.addV_zero] at this
  exact this
theorem add_v (tm x : BitVec 64) (z : Int) (hz : z = iv 0#64) (w : World) : Calls Try.prog 25 #[.agg #[.int .u64 (iv 0#64), .int .u64 (iv tm)], .agg #[.int .u64 (iv x), .int .u64 z]] w fun e w' => e = .returned (.agg #[.int .u64 (iv (Tn.addV 0#64 tm x 0#64)), .int .u64 (iv (Tn.addU 0#64 tm x 0#64))]) ∧ Gr w w' := by
  subst hz
  exact add_any 0#64 tm x 0#64 w
theorem mulM_0 {av am : BitVec 64} (bv bm : BitVec 64) {k : Nat} (h : Tn.bitT av am k = 0) : Tn.mulM av am bv bm (k + 1) = Tn.mulM av am bv bm k := by
  unfold Tn.bitT at h
  rw [Tn.mulM]
  cases h1 : am.getLsbD k <;> cases h2 : av.getLsbD k <;> rw [h1, h2] at h <;> first | rfl | cases h
theorem mulM_1 {av am : BitVec 64} (bv bm : BitVec 64) {k : Nat} (h : Tn.bitT av am k = 1) : Tn.mulM av am bv bm (k + 1) = Tn.addU 0#64 (Tn.mulM av am bv bm k) 0#64 (bm <<< k) := by
  unfold Tn.bitT at h
  rw [Tn.mulM]
  cases h1 : am.getLsbD k <;> cases h2 : av.getLsbD k <;> rw [h1, h2] at h <;> first | rfl | cases h
theorem mulM_2 {av am : BitVec 64} (bv bm : BitVec 64) {k : Nat} (h : Tn.bitT av am k = 2) : Tn.mulM av am bv bm (k + 1) = Tn.addU 0#64 (Tn.mulM av am bv bm k) 0#64 ((bv ||| bm) <<< k) := by
  unfold Tn.bitT at h
  rw [Tn.mulM]
  cases h1 : am.getLsbD k <;> cases h2 : av.getLsbD k <;> rw [h1, h2] at h <;> first | rfl | cases h
set_option maxHeartbeats 4000000 in
theorem rmul_any (av am bv bm : BitVec 64) (w : World) : Calls Try.prog 30 #[.agg #[.int .u64 (iv av), .int .u64 (iv am)], .agg #[.int .u64 (iv bv), .int .u64 (iv bm)]] w fun e w' => e = .returned (.agg #[.int .u64 (iv (Tn.mulV av am bv bm)), .int .u64 (iv (Tn.mulU av am bv bm))]) ∧ Gr w w' := by
  unfold Tn.mulV Tn.mulU
  go_enter Try.func30, Try.ntmps30
  go_wp2_with fail
  go_loopw [6] (fun i wr => ∃ k : Nat, k ≤ 64 ∧ i = .int .i64 k ∧ At wr w.heap.size av am ∧ At wr (w.heap.size + 1) bv bm ∧ At wr (w.heap.size + 1 + 1) 0#64 0#64 ∧ At wr (w.heap.size + 1 + 1 + 1) 0#64 (Tn.mulM av am bv bm k) ∧ Gr w wr) (fun i _ => 64 - (intOf i).toNat)
  case atStart => exact ⟨0, by omega, rfl, ((((At.newb _ (by simp) av am).alloc _).alloc _).alloc _), (((At.newb _ (by simp) bv bm).alloc _).alloc _), ((At.newz _ (by simp)).alloc _), (At.newz _ (by simp)), by go_grown, by go_grown⟩
  case round =>
    obtain ⟨k, hk, rfl, h0, h1, h2, h3, hg⟩ := hrel
    have H0 : Hid (At wr w.heap.size av am) := h0
    have H1 : Hid (At wr (w.heap.size + 1) bv bm) := h1
    have H2 : Hid (At wr (w.heap.size + 1 + 1) 0#64 0#64) := h2
    have H3 : Hid (At wr (w.heap.size + 1 + 1 + 1) 0#64 (Tn.mulM av am bv bm k)) := h3
    have HG : Hid (Gr w wr) := hg
    clear h0 h1 h2 h3 hg
    by_cases hlt : k < 64
    · have r0 := @iv_shl
      have r1 := iv_or bv bm
      have hx := H0.out.gr (Gr.refl wr)
      replace c00 := hx.c0
      replace c01 := hx.c1
      clear hx
      have hx := H1.out.gr (Gr.refl wr)
      replace c10 := hx.c0
      replace c11 := hx.c1
      clear hx
      have hx := H3.out.gr (Gr.refl wr)
      replace c30 := hx.c0
      replace c31 := hx.c1
      replace f30 := hx.f0 0
      replace f31 := hx.f0 1
      clear hx
      rcases Tn.bit_cases av am k with ea | ea | ea
      · have HE : Hid (Tn.bitT av am k = 0) := ea
        go_wp2_with (first
          | (go_at_call 43; refine (bit_gr _ _ hlt _).mono ?_; rintro e w1 ⟨rfl, hh1⟩; have hx := H1.out.gr hh1; replace c10 := hx.c0; replace c11 := hx.c1; clear hx; have hx := H3.out.gr hh1; replace c30 := hx.c0; replace c31 := hx.c1; replace f30 := hx.f0 0; replace f31 := hx.f0 1; clear hx)
          | (go_at_call 26; refine (radd_m _ _ 0 iv_zero.symm _).mono ?_; rintro e w2 ⟨rfl, hh2⟩; have hx := H3.out.gr (hh1.trans hh2); replace c30 := hx.c0; replace c31 := hx.c1; replace f30 := hx.f0 0; replace f31 := hx.f0 1; clear hx))
        go_roundw
        case rel => exact ⟨k + 1, by omega, by go_num, (H0.out.gr hh1), (H1.out.gr hh1), (H2.out.gr hh1), (by rw [mulM_0 bv bm HE.out]; exact H3.out.gr hh1), (HG.out.trans hh1)⟩
        case measure => simp [intOf]; omega
      · have HE : Hid (Tn.bitT av am k = 1) := ea
        go_wp2_with (first
          | (go_at_call 43; refine (bit_gr _ _ hlt _).mono ?_; rintro e w1 ⟨rfl, hh1⟩; have hx := H1.out.gr hh1; replace c10 := hx.c0; replace c11 := hx.c1; clear hx; have hx := H3.out.gr hh1; replace c30 := hx.c0; replace c31 := hx.c1; replace f30 := hx.f0 0; replace f31 := hx.f0 1; clear hx)
          | (go_at_call 26; refine (radd_m _ _ 0 iv_zero.symm _).mono ?_; rintro e w2 ⟨rfl, hh2⟩; have hx := H3.out.gr (hh1.trans hh2); replace c30 := hx.c0; replace c31 := hx.c1; replace f30 := hx.f0 0; replace f31 := hx.f0 1; clear hx))
        go_roundw
        case rel => exact ⟨k + 1, by omega, by go_num, (((H0.out.gr (hh1.trans hh2)).other (by omega) _).other (by omega) _), (((H1.out.gr (hh1.trans hh2)).other (by omega) _).other (by omega) _), (((H2.out.gr (hh1.trans hh2)).other (by omega) _).other (by omega) _), (by rw [mulM_1 bv bm HE.out]; exact (H3.out.gr (hh1.trans hh2)).set _ _), ((HG.out.trans (hh1.trans hh2)).set (by omega) _).set (by omega) _⟩
        case measure => simp [intOf]; omega
      · have HE : Hid (Tn.bitT av am k = 2) := ea
        go_wp2_with (first
          | (go_at_call 43; refine (bit_gr _ _ hlt _).mono ?_; rintro e w1 ⟨rfl, hh1⟩; have hx := H1.out.gr hh1; replace c10 := hx.c0; replace c11 := hx.c1; clear hx; have hx := H3.out.gr hh1; replace c30 := hx.c0; replace c31 := hx.c1; replace f30 := hx.f0 0; replace f31 := hx.f0 1; clear hx)
          | (go_at_call 26; refine (radd_m _ _ 0 iv_zero.symm _).mono ?_; rintro e w2 ⟨rfl, hh2⟩; have hx := H3.out.gr (hh1.trans hh2); replace c30 := hx.c0; replace c31 := hx.c1; replace f30 := hx.f0 0; replace f31 := hx.f0 1; clear hx))
        go_roundw
        case rel => exact ⟨k + 1, by omega, by go_num, (((H0.out.gr (hh1.trans hh2)).other (by omega) _).other (by omega) _), (((H1.out.gr (hh1.trans hh2)).other (by omega) _).other (by omega) _), (((H2.out.gr (hh1.trans hh2)).other (by omega) _).other (by omega) _), (by rw [mulM_2 bv bm HE.out]; exact (H3.out.gr (hh1.trans hh2)).set _ _), ((HG.out.trans (hh1.trans hh2)).set (by omega) _).set (by omega) _⟩
        case measure => simp [intOf]; omega
    · obtain rfl : k = 64 := by omega
      have r0 := iv_mul av bv
      have hx := H0.out.gr (Gr.refl wr)
      replace c00 := hx.c0
      replace c01 := hx.c1
      clear hx
      have hx := H1.out.gr (Gr.refl wr)
      replace c10 := hx.c0
      replace c11 := hx.c1
      clear hx
      have hx := H3.out.gr (Gr.refl wr)
      replace c30 := hx.c0
      replace c31 := hx.c1
      replace f30 := hx.f0 0
      replace f31 := hx.f0 1
      clear hx
      go_wp2_with (first
        | (go_at_call 26; refine (radd_v _ _ 0 iv_zero.symm _).mono ?_; rintro e w2 ⟨rfl, hh2⟩; have hx := H2.out.gr hh2; replace c20 := hx.c0; replace c21 := hx.c1; replace f20 := hx.f0 0; replace f21 := hx.f0 1; clear hx; have e0 := ((H2.out.gr hh2).set (Tn.addV 0#64 (Tn.mulM av am bv bm 64) (av * bv) 0#64) (Tn.addU 0#64 (Tn.mulM av am bv bm 64) (av * bv) 0#64)).c0; have e1 := ((H2.out.gr hh2).set (Tn.addV 0#64 (Tn.mulM av am bv bm 64) (av * bv) 0#64) (Tn.addU 0#64 (Tn.mulM av am bv bm 64) (av * bv) 0#64)).c1))
      refine bodyPost_ret (by simp [results, Try.results30, go_sem, e0, e1]; try rfl) rfl ?_
      exact ⟨rfl, ((HG.out.trans hh2).set (by omega) _).set (by omega) _⟩

end Go.Proofs.Ytoomcnjpomdbpaa
