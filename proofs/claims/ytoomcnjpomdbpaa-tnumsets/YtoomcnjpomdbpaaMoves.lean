/- Towards the statements of package tnum (layer 3): the document's Low and Shift, for every argument. -/
import Derived.Test.YtoomcnjpomdbpaaBits
namespace Go.Proofs.Ytoomcnjpomdbpaa
open Go.ChangeShapes Go.WideShapes Go.ChangeAt Go.RowKit
set_option linter.unusedVariables false
set_option maxRecDepth 20000

set_option maxHeartbeats 4000000 in
theorem rlow_any (v m : BitVec 64) (n : Nat) (hn : n < 18446744073709551616) (w : World) : Calls Try.prog 23 #[.agg #[.int .u64 (iv v), .int .u64 (iv m)], .int .u64 (n : Int)] w fun e w' => e = .returned (.agg #[.int .u64 (iv (Tn.accB (fun i => Tn.bitT v m i == 1) (min 64 n))), .int .u64 (iv (Tn.accB (fun i => Tn.bitT v m i == 2) (min 64 n)))]) ∧ Gr w w' := by
  generalize hN : min 64 n = N
  have HN : Hid (min 64 n = N) := hN
  clear hN
  go_enter Try.func23, Try.ntmps23
  go_wp2_with fail
  go_loopw [6] (fun i wr => ∃ k : Nat, k ≤ 64 ∧ k ≤ n ∧ i = .int .i64 k ∧ At wr w.heap.size v m ∧ At wr (w.heap.size + 1) 0#64 0#64 ∧ At wr (w.heap.size + 1 + 1) (Tn.accB (fun i => Tn.bitT v m i == 1) k) (Tn.accB (fun i => Tn.bitT v m i == 2) k) ∧ Gr w wr) (fun i _ => 64 - (intOf i).toNat)
  case atStart => exact ⟨0, by omega, by omega, rfl, (((At.newb _ (by simp) v m).alloc _).alloc _), ((At.newz _ (by simp)).alloc _), (At.newz _ (by simp)), by go_grown, by go_grown⟩
  case round =>
    obtain ⟨k, hk, hkn, rfl, h0, h1, h2, hg⟩ := hrel
    have H0 : Hid (At wr w.heap.size v m) := h0
    have H1 : Hid (At wr (w.heap.size + 1) 0#64 0#64) := h1
    have H2 : Hid (At wr (w.heap.size + 1 + 1) (Tn.accB (fun i => Tn.bitT v m i == 1) k) (Tn.accB (fun i => Tn.bitT v m i == 2) k)) := h2
    have HG : Hid (Gr w wr) := hg
    clear h0 h1 h2 hg
    by_cases hlt : k < 64
    · by_cases hln : k < n
      · have d1 : decide ((k : Int) < 64) = true := by simp; omega
        have d2 : decide ((k : Int) < (n : Int)) = true := by simp; omega
        have d00 := (H0.out.drew).c0
        have d01 := (H0.out.drew).c1
        have c00 := H0.out.c0
        have c01 := H0.out.c1
        have d20 := (H2.out.drew).c0
        have d21 := (H2.out.drew).c1
        have c20 := H2.out.c0
        have c21 := H2.out.c1
        have f20 := H2.out.f0 0
        have f21 := H2.out.f0 1
        go_wp2_with fail
        go_region_with (first
          | (go_at_call 43; refine (bit_gr _ _ hlt _).mono ?_; rintro e w1 ⟨rfl, hh1⟩; have hx := H2.out.gr ((Gr.refl wr).drew.trans hh1); replace c20 := hx.c0; replace c21 := hx.c1; replace f20 := hx.f0 0; replace f21 := hx.f0 1; clear hx)
          | (go_at_call 44; refine (put_gr _ _ hlt (Tn.bitT_le _ _ _) _).mono ?_; rintro e w2 ⟨rfl, hh2⟩; have hx := H2.out.gr ((Gr.refl wr).drew.trans (hh1.trans hh2)); replace c20 := hx.c0; replace c21 := hx.c1; replace f20 := hx.f0 0; replace f21 := hx.f0 1; clear hx))
        all_goals go_wp2
        all_goals go_roundw
        all_goals (first
          | (have hacc := acc_put (fun i => Tn.bitT v m i) k (Tn.bitT v m k) rfl
             exact ⟨k + 1, by omega, by omega, by go_num, (((H0.out.gr ((Gr.refl wr).drew.trans (hh1.trans hh2))).other (by omega) _).other (by omega) _), (((H1.out.gr ((Gr.refl wr).drew.trans (hh1.trans hh2))).other (by omega) _).other (by omega) _), (by rw [hacc.1, hacc.2]; exact (H2.out.gr ((Gr.refl wr).drew.trans (hh1.trans hh2))).set _ _), ((HG.out.trans ((Gr.refl wr).drew.trans (hh1.trans hh2))).set (by omega) _).set (by omega) _⟩)
          | (simp [intOf]; omega))
      · obtain rfl : k = n := by omega
        obtain rfl : k = N := by have := HN.out; omega
        have d1 : decide ((k : Int) < 64) = true := by simp; omega
        have d2 : decide ((k : Int) < (k : Int)) = false := by simp
        have hx := H1.out.gr (Gr.refl wr)
        replace c10 := hx.c0
        replace c11 := hx.c1
        replace f10 := hx.f0 0
        replace f11 := hx.f0 1
        clear hx
        have hx := H2.out.gr (Gr.refl wr)
        replace c20 := hx.c0
        replace c21 := hx.c1
        replace f20 := hx.f0 0
        replace f21 := hx.f0 1
        clear hx
        have e0 := (H1.out.set (Tn.accB (fun i => Tn.bitT v m i == 1) k) (Tn.accB (fun i => Tn.bitT v m i == 2) k)).c0
        have e1 := (H1.out.set (Tn.accB (fun i => Tn.bitT v m i == 1) k) (Tn.accB (fun i => Tn.bitT v m i == 2) k)).c1
        go_wp2
        refine bodyPost_ret (by simp [results, Try.results23, go_sem, e0, e1]; try rfl) rfl ?_
        exact ⟨rfl, (HG.out.set (by omega) _).set (by omega) _⟩
    · obtain rfl : k = 64 := by omega
      obtain rfl : 64 = N := by have := HN.out; omega
      have d1 : decide (((64 : Nat) : Int) < 64) = false := by decide
      have hx := H1.out.gr (Gr.refl wr)
      replace c10 := hx.c0
      replace c11 := hx.c1
      replace f10 := hx.f0 0
      replace f11 := hx.f0 1
      clear hx
      have hx := H2.out.gr (Gr.refl wr)
      replace c20 := hx.c0
      replace c21 := hx.c1
      replace f20 := hx.f0 0
      replace f21 := hx.f0 1
      clear hx
      have e0 := (H1.out.set (Tn.accB (fun i => Tn.bitT v m i == 1) 64) (Tn.accB (fun i => Tn.bitT v m i == 2) 64)).c0
      have e1 := (H1.out.set (Tn.accB (fun i => Tn.bitT v m i == 1) 64) (Tn.accB (fun i => Tn.bitT v m i == 2) 64)).c1
      go_wp2
      refine bodyPost_ret (by simp [results, Try.results23, go_sem, e0, e1]; try rfl) rfl ?_
      exact ⟨rfl, (HG.out.set (by omega) _).set (by omega) _⟩
def shF (h n : Nat) (v m : BitVec 64) (i : Nat) : Nat := if h = 0 then (if n ≤ i then Tn.bitT v m (i - n) else 0) else if h = 1 then (if i + n < 64 then Tn.bitT v m (i + n) else 0) else Tn.bitT v m (min (i + n) 63)
set_option maxHeartbeats 4000000 in
theorem shift0 (v m : BitVec 64) (n : Nat) (hn : n < 256) (w : World) : Calls Try.prog 35 #[.agg #[.int .u64 (iv v), .int .u64 (iv m)], .int .u64 (n : Int), .int .i64 0] w fun e w' => e = .returned (.agg #[.int .u64 (iv (Tn.mkV fun i => shF 0 n v m i)), .int .u64 (iv (Tn.mkM fun i => shF 0 n v m i))]) ∧ Gr w w' := by
  unfold Tn.mkV Tn.mkM
  go_enter Try.func35, Try.ntmps35
  go_wp2_with fail
  go_loopw [8] (fun i wr => ∃ k : Nat, k ≤ 64 ∧ i = .int .i64 k ∧ At wr w.heap.size v m ∧ At wr (w.heap.size + 1) 0#64 0#64 ∧ At wr (w.heap.size + 1 + 1) (Tn.accB (fun i => shF 0 n v m i == 1) k) (Tn.accB (fun i => shF 0 n v m i == 2) k) ∧ Gr w wr) (fun i _ => 64 - (intOf i).toNat)
  case atStart => exact ⟨0, by omega, rfl, (((At.newb _ (by simp) v m).alloc _).alloc _), ((At.newz _ (by simp)).alloc _), (At.newz _ (by simp)), by go_grown, by go_grown⟩
  case round =>
    obtain ⟨k, hk, rfl, h0, h1, h2, hg⟩ := hrel
    have H0 : Hid (At wr w.heap.size v m) := h0
    have H1 : Hid (At wr (w.heap.size + 1) 0#64 0#64) := h1
    have H2 : Hid (At wr (w.heap.size + 1 + 1) (Tn.accB (fun i => shF 0 n v m i == 1) k) (Tn.accB (fun i => shF 0 n v m i == 2) k)) := h2
    have HG : Hid (Gr w wr) := hg
    clear h0 h1 h2 hg
    by_cases hlt : k < 64
    · by_cases hb : 63 < n
      · have g1 : decide (63 < (n : Int)) = true := by simp; omega
        have HE : Hid (shF 0 n v m k = 0) := by show (if n ≤ k then _ else _) = _; rw [if_neg (by omega)]
        go_wp2
        go_roundw
        case rel =>
          have hacc := acc_put (fun i => shF 0 n v m i) k 0 HE.out
          exact ⟨k + 1, by omega, by go_num, H0.out, H1.out, (by rw [hacc.1, hacc.2]; exact H2.out), HG.out⟩
        case measure => simp [intOf]; omega
      · have g1 : decide (63 < (n : Int)) = false := by simp; omega
        by_cases hc : n ≤ k
        · have g2 : IntKind.i64.wrap ((k : Int) - (n : Int)) = (k : Int) - (n : Int) := IntWalk.i64_in _ ⟨by omega, by omega⟩
          have g3 : IntKind.i64.wrap (n : Int) = (n : Int) := IntWalk.i64_in _ ⟨by omega, by omega⟩
          have g5 : decide (0 ≤ (k : Int) - (n : Int)) = true := by simp; omega
          have g6 : decide ((k : Int) - (n : Int) < 64) = true := by simp; omega
          have HE : Hid (shF 0 n v m k = Tn.bitT v m (k - n)) := by show (if n ≤ k then _ else _) = _; rw [if_pos hc]
          have hj : k - n < 64 := by omega
          have d00 := (H0.out.drew).c0
          have d01 := (H0.out.drew).c1
          have c00 := H0.out.c0
          have c01 := H0.out.c1
          have d20 := (H2.out.drew).c0
          have d21 := (H2.out.drew).c1
          have c20 := H2.out.c0
          have c21 := H2.out.c1
          have f20 := H2.out.f0 0
          have f21 := H2.out.f0 1
          obtain ⟨j, hje⟩ : ∃ j : Nat, k - n = j := ⟨_, rfl⟩
          rw [hje] at hj HE
          have hv : (k : Int) - (n : Int) = (j : Int) := by omega
          have HJ : Hid (k - n = j) := hje
          clear hje
          go_wp2_with fail
          go_region_with (first
            | (go_at_call 43; refine (bit_gr _ _ hj _).mono ?_; rintro e w1 ⟨rfl, hh1⟩; have hx := H2.out.gr ((Gr.refl wr).drew.trans hh1); replace c20 := hx.c0; replace c21 := hx.c1; replace f20 := hx.f0 0; replace f21 := hx.f0 1; clear hx)
            | (go_at_call 44; refine (put_gr _ _ hlt (Tn.bitT_le _ _ _) _).mono ?_; rintro e w2 ⟨rfl, hh2⟩; have hx := H2.out.gr ((Gr.refl wr).drew.trans (hh1.trans hh2)); replace c20 := hx.c0; replace c21 := hx.c1; replace f20 := hx.f0 0; replace f21 := hx.f0 1; clear hx))
          all_goals go_wp2
          all_goals go_roundw
          all_goals (first
            | (have hacc := acc_put (fun i => shF 0 n v m i) k (Tn.bitT v m j) HE.out
               exact ⟨k + 1, by omega, by go_num, (((H0.out.gr ((Gr.refl wr).drew.trans (hh1.trans hh2))).other (by omega) _).other (by omega) _), (((H1.out.gr ((Gr.refl wr).drew.trans (hh1.trans hh2))).other (by omega) _).other (by omega) _), (by rw [hacc.1, hacc.2]; exact (H2.out.gr ((Gr.refl wr).drew.trans (hh1.trans hh2))).set _ _), ((HG.out.trans ((Gr.refl wr).drew.trans (hh1.trans hh2))).set (by omega) _).set (by omega) _⟩)
            | (simp [intOf]; omega))
        · have HE : Hid (shF 0 n v m k = 0) := by show (if n ≤ k then _ else _) = _; rw [if_neg hc]
          have g2 : IntKind.i64.wrap ((k : Int) - (n : Int)) = (k : Int) - (n : Int) := IntWalk.i64_in _ ⟨by omega, by omega⟩
          have g3 : IntKind.i64.wrap (n : Int) = (n : Int) := IntWalk.i64_in _ ⟨by omega, by omega⟩
          have g5 : decide (0 ≤ (k : Int) - (n : Int)) = false := by simp; omega
          go_wp2
          go_roundw
          case rel =>
            have hacc := acc_put (fun i => shF 0 n v m i) k 0 HE.out
            exact ⟨k + 1, by omega, by go_num, H0.out, H1.out, (by rw [hacc.1, hacc.2]; exact H2.out), HG.out⟩
          case measure => simp [intOf]; omega
    · obtain rfl : k = 64 := by omega
      have hx := H1.out.gr (Gr.refl wr)
      replace c10 := hx.c0
      replace c11 := hx.c1
      replace f10 := hx.f0 0
      replace f11 := hx.f0 1
      clear hx
      have hx := H2.out.gr (Gr.refl wr)
      replace c20 := hx.c0
      replace c21 := hx.c1
      replace f20 := hx.f0 0
      replace f21 := hx.f0 1
      clear hx
      have e0 := (H1.out.set (Tn.accB (fun i => shF 0 n v m i == 1) 64) (Tn.accB (fun i => shF 0 n v m i == 2) 64)).c0
      have e1 := (H1.out.set (Tn.accB (fun i => shF 0 n v m i == 1) 64) (Tn.accB (fun i => shF 0 n v m i == 2) 64)).c1
      go_wp2
      refine bodyPost_ret (by simp [results, Try.results35, go_sem, e0, e1]; try rfl) rfl ?_
      exact ⟨rfl, (HG.out.set (by omega) _).set (by omega) _⟩
set_option maxHeartbeats 4000000 in
theorem shift1 (v m : BitVec 64) (n : Nat) (hn : n < 256) (w : World) : Calls Try.prog 35 #[.agg #[.int .u64 (iv v), .int .u64 (iv m)], .int .u64 (n : Int), .int .i64 1] w fun e w' => e = .returned (.agg #[.int .u64 (iv (Tn.mkV fun i => shF 1 n v m i)), .int .u64 (iv (Tn.mkM fun i => shF 1 n v m i))]) ∧ Gr w w' := by
  unfold Tn.mkV Tn.mkM
  go_enter Try.func35, Try.ntmps35
  go_wp2_with fail
  go_loopw [8] (fun i wr => ∃ k : Nat, k ≤ 64 ∧ i = .int .i64 k ∧ At wr w.heap.size v m ∧ At wr (w.heap.size + 1) 0#64 0#64 ∧ At wr (w.heap.size + 1 + 1) (Tn.accB (fun i => shF 1 n v m i == 1) k) (Tn.accB (fun i => shF 1 n v m i == 2) k) ∧ Gr w wr) (fun i _ => 64 - (intOf i).toNat)
  case atStart => exact ⟨0, by omega, rfl, (((At.newb _ (by simp) v m).alloc _).alloc _), ((At.newz _ (by simp)).alloc _), (At.newz _ (by simp)), by go_grown, by go_grown⟩
  case round =>
    obtain ⟨k, hk, rfl, h0, h1, h2, hg⟩ := hrel
    have H0 : Hid (At wr w.heap.size v m) := h0
    have H1 : Hid (At wr (w.heap.size + 1) 0#64 0#64) := h1
    have H2 : Hid (At wr (w.heap.size + 1 + 1) (Tn.accB (fun i => shF 1 n v m i == 1) k) (Tn.accB (fun i => shF 1 n v m i == 2) k)) := h2
    have HG : Hid (Gr w wr) := hg
    clear h0 h1 h2 hg
    by_cases hlt : k < 64
    · by_cases hb : 63 < n
      · have g1 : decide (63 < (n : Int)) = true := by simp; omega
        have HE : Hid (shF 1 n v m k = 0) := by show (if k + n < 64 then _ else _) = _; rw [if_neg (by omega)]
        go_wp2
        go_roundw
        case rel =>
          have hacc := acc_put (fun i => shF 1 n v m i) k 0 HE.out
          exact ⟨k + 1, by omega, by go_num, H0.out, H1.out, (by rw [hacc.1, hacc.2]; exact H2.out), HG.out⟩
        case measure => simp [intOf]; omega
      · have g1 : decide (63 < (n : Int)) = false := by simp; omega
        by_cases hc : k + n < 64
        · have g2 : IntKind.i64.wrap ((k : Int) + (n : Int)) = (k : Int) + (n : Int) := IntWalk.i64_in _ ⟨by omega, by omega⟩
          have g3 : IntKind.i64.wrap (n : Int) = (n : Int) := IntWalk.i64_in _ ⟨by omega, by omega⟩
          have HE : Hid (shF 1 n v m k = Tn.bitT v m (k + n)) := by show (if k + n < 64 then _ else _) = _; rw [if_pos hc]
          have hj : k + n < 64 := by omega
          have d00 := (H0.out.drew).c0
          have d01 := (H0.out.drew).c1
          have c00 := H0.out.c0
          have c01 := H0.out.c1
          have d20 := (H2.out.drew).c0
          have d21 := (H2.out.drew).c1
          have c20 := H2.out.c0
          have c21 := H2.out.c1
          have f20 := H2.out.f0 0
          have f21 := H2.out.f0 1
          obtain ⟨j, hje⟩ : ∃ j : Nat, k + n = j := ⟨_, rfl⟩
          rw [hje] at hj HE
          have hv : (k : Int) + (n : Int) = (j : Int) := by omega
          have HJ : Hid (k + n = j) := hje
          clear hje
          go_wp2_with fail
          go_region_with (first
            | (go_at_call 43; refine (bit_gr _ _ hj _).mono ?_; rintro e w1 ⟨rfl, hh1⟩; have hx := H2.out.gr ((Gr.refl wr).drew.trans hh1); replace c20 := hx.c0; replace c21 := hx.c1; replace f20 := hx.f0 0; replace f21 := hx.f0 1; clear hx)
            | (go_at_call 44; refine (put_gr _ _ hlt (Tn.bitT_le _ _ _) _).mono ?_; rintro e w2 ⟨rfl, hh2⟩; have hx := H2.out.gr ((Gr.refl wr).drew.trans (hh1.trans hh2)); replace c20 := hx.c0; replace c21 := hx.c1; replace f20 := hx.f0 0; replace f21 := hx.f0 1; clear hx))
          all_goals go_wp2
          all_goals go_roundw
          all_goals (first
            | (have hacc := acc_put (fun i => shF 1 n v m i) k (Tn.bitT v m j) HE.out
               exact ⟨k + 1, by omega, by go_num, (((H0.out.gr ((Gr.refl wr).drew.trans (hh1.trans hh2))).other (by omega) _).other (by omega) _), (((H1.out.gr ((Gr.refl wr).drew.trans (hh1.trans hh2))).other (by omega) _).other (by omega) _), (by rw [hacc.1, hacc.2]; exact (H2.out.gr ((Gr.refl wr).drew.trans (hh1.trans hh2))).set _ _), ((HG.out.trans ((Gr.refl wr).drew.trans (hh1.trans hh2))).set (by omega) _).set (by omega) _⟩)
            | (simp [intOf]; omega))
        · have HE : Hid (shF 1 n v m k = 0) := by show (if k + n < 64 then _ else _) = _; rw [if_neg hc]
          have g2 : IntKind.i64.wrap ((k : Int) + (n : Int)) = (k : Int) + (n : Int) := IntWalk.i64_in _ ⟨by omega, by omega⟩
          have g3 : IntKind.i64.wrap (n : Int) = (n : Int) := IntWalk.i64_in _ ⟨by omega, by omega⟩
          have g5 : decide (0 ≤ (k : Int) + (n : Int)) = true := by simp; omega
          have g6 : decide ((k : Int) + (n : Int) < 64) = false := by simp; omega
          go_wp2
          go_roundw
          case rel =>
            have hacc := acc_put (fun i => shF 1 n v m i) k 0 HE.out
            exact ⟨k + 1, by omega, by go_num, H0.out, H1.out, (by rw [hacc.1, hacc.2]; exact H2.out), HG.out⟩
          case measure => simp [intOf]; omega
    · obtain rfl : k = 64 := by omega
      have hx := H1.out.gr (Gr.refl wr)
      replace c10 := hx.c0
      replace c11 := hx.c1
      replace f10 := hx.f0 0
      replace f11 := hx.f0 1
      clear hx
      have hx := H2.out.gr (Gr.refl wr)
      replace c20 := hx.c0
      replace c21 := hx.c1
      replace f20 := hx.f0 0
      replace f21 := hx.f0 1
      clear hx
      have e0 := (H1.out.set (Tn.accB (fun i => shF 1 n v m i == 1) 64) (Tn.accB (fun i => shF 1 n v m i == 2) 64)).c0
      have e1 := (H1.out.set (Tn.accB (fun i => shF 1 n v m i == 1) 64) (Tn.accB (fun i => shF 1 n v m i == 2) 64)).c1
      go_wp2
      refine bodyPost_ret (by simp [results, Try.results35, go_sem, e0, e1]; try rfl) rfl ?_
      exact ⟨rfl, (HG.out.set (by omega) _).set (by omega) _⟩
set_option maxHeartbeats 4000000 in
theorem shift2 (v m : BitVec 64) (n : Nat) (hn : n < 256) (w : World) : Calls Try.prog 35 #[.agg #[.int .u64 (iv v), .int .u64 (iv m)], .int .u64 (n : Int), .int .i64 2] w fun e w' => e = .returned (.agg #[.int .u64 (iv (Tn.mkV fun i => shF 2 n v m i)), .int .u64 (iv (Tn.mkM fun i => shF 2 n v m i))]) ∧ Gr w w' := by
  unfold Tn.mkV Tn.mkM
  go_enter Try.func35, Try.ntmps35
  go_wp2_with fail
  go_loopw [8] (fun i wr => ∃ k : Nat, k ≤ 64 ∧ i = .int .i64 k ∧ At wr w.heap.size v m ∧ At wr (w.heap.size + 1) 0#64 0#64 ∧ At wr (w.heap.size + 1 + 1) (Tn.accB (fun i => shF 2 n v m i == 1) k) (Tn.accB (fun i => shF 2 n v m i == 2) k) ∧ Gr w wr) (fun i _ => 64 - (intOf i).toNat)
  case atStart => exact ⟨0, by omega, rfl, (((At.newb _ (by simp) v m).alloc _).alloc _), ((At.newz _ (by simp)).alloc _), (At.newz _ (by simp)), by go_grown, by go_grown⟩
  case round =>
    obtain ⟨k, hk, rfl, h0, h1, h2, hg⟩ := hrel
    have H0 : Hid (At wr w.heap.size v m) := h0
    have H1 : Hid (At wr (w.heap.size + 1) 0#64 0#64) := h1
    have H2 : Hid (At wr (w.heap.size + 1 + 1) (Tn.accB (fun i => shF 2 n v m i == 1) k) (Tn.accB (fun i => shF 2 n v m i == 2) k)) := h2
    have HG : Hid (Gr w wr) := hg
    clear h0 h1 h2 hg
    by_cases hlt : k < 64
    · by_cases hb : 63 < n
      · have g1 : decide (63 < (n : Int)) = true := by simp; omega
        have HE : Hid (shF 2 n v m k = Tn.bitT v m (63)) := by show Tn.bitT v m (min (k + n) 63) = _; rw [show min (k + n) 63 = 63 by omega]
        have hj : 63 < 64 := by omega
        have d00 := (H0.out.drew).c0
        have d01 := (H0.out.drew).c1
        have c00 := H0.out.c0
        have c01 := H0.out.c1
        have d20 := (H2.out.drew).c0
        have d21 := (H2.out.drew).c1
        have c20 := H2.out.c0
        have c21 := H2.out.c1
        have f20 := H2.out.f0 0
        have f21 := H2.out.f0 1
        go_wp2_with fail
        go_region_with (first
          | (go_at_call 43; refine (bit_gr _ _ hj _).mono ?_; rintro e w1 ⟨rfl, hh1⟩; have hx := H2.out.gr ((Gr.refl wr).drew.trans hh1); replace c20 := hx.c0; replace c21 := hx.c1; replace f20 := hx.f0 0; replace f21 := hx.f0 1; clear hx)
          | (go_at_call 44; refine (put_gr _ _ hlt (Tn.bitT_le _ _ _) _).mono ?_; rintro e w2 ⟨rfl, hh2⟩; have hx := H2.out.gr ((Gr.refl wr).drew.trans (hh1.trans hh2)); replace c20 := hx.c0; replace c21 := hx.c1; replace f20 := hx.f0 0; replace f21 := hx.f0 1; clear hx))
        all_goals go_wp2
        all_goals go_roundw
        all_goals (first
          | (have hacc := acc_put (fun i => shF 2 n v m i) k (Tn.bitT v m 63) HE.out
             exact ⟨k + 1, by omega, by go_num, (((H0.out.gr ((Gr.refl wr).drew.trans (hh1.trans hh2))).other (by omega) _).other (by omega) _), (((H1.out.gr ((Gr.refl wr).drew.trans (hh1.trans hh2))).other (by omega) _).other (by omega) _), (by rw [hacc.1, hacc.2]; exact (H2.out.gr ((Gr.refl wr).drew.trans (hh1.trans hh2))).set _ _), ((HG.out.trans ((Gr.refl wr).drew.trans (hh1.trans hh2))).set (by omega) _).set (by omega) _⟩)
          | (simp [intOf]; omega))
      · have g1 : decide (63 < (n : Int)) = false := by simp; omega
        by_cases hc : k + n < 63
        · have g2 : IntKind.i64.wrap ((k : Int) + (n : Int)) = (k : Int) + (n : Int) := IntWalk.i64_in _ ⟨by omega, by omega⟩
          have g3 : IntKind.i64.wrap (n : Int) = (n : Int) := IntWalk.i64_in _ ⟨by omega, by omega⟩
          have g7 : decide (63 < (k : Int) + (n : Int)) = false := by simp; omega
          have g8 : decide ((k : Int) + (n : Int) < 63) = true := by simp; omega
          have g9 : min ((k : Int) + (n : Int)) 63 = (k : Int) + (n : Int) := by omega
          have HE : Hid (shF 2 n v m k = Tn.bitT v m (k + n)) := by show Tn.bitT v m (min (k + n) 63) = _; rw [show min (k + n) 63 = k + n by omega]
          have hj : k + n < 64 := by omega
          have d00 := (H0.out.drew).c0
          have d01 := (H0.out.drew).c1
          have c00 := H0.out.c0
          have c01 := H0.out.c1
          have d20 := (H2.out.drew).c0
          have d21 := (H2.out.drew).c1
          have c20 := H2.out.c0
          have c21 := H2.out.c1
          have f20 := H2.out.f0 0
          have f21 := H2.out.f0 1
          obtain ⟨j, hje⟩ : ∃ j : Nat, k + n = j := ⟨_, rfl⟩
          rw [hje] at hj HE
          have hv : (k : Int) + (n : Int) = (j : Int) := by omega
          have HJ : Hid (k + n = j) := hje
          clear hje
          go_wp2_with fail
          go_region_with (first
            | (go_at_call 43; refine (bit_gr _ _ hj _).mono ?_; rintro e w1 ⟨rfl, hh1⟩; have hx := H2.out.gr ((Gr.refl wr).drew.trans hh1); replace c20 := hx.c0; replace c21 := hx.c1; replace f20 := hx.f0 0; replace f21 := hx.f0 1; clear hx)
            | (go_at_call 44; refine (put_gr _ _ hlt (Tn.bitT_le _ _ _) _).mono ?_; rintro e w2 ⟨rfl, hh2⟩; have hx := H2.out.gr ((Gr.refl wr).drew.trans (hh1.trans hh2)); replace c20 := hx.c0; replace c21 := hx.c1; replace f20 := hx.f0 0; replace f21 := hx.f0 1; clear hx))
          all_goals go_wp2
          all_goals go_roundw
          all_goals (first
            | (have hacc := acc_put (fun i => shF 2 n v m i) k (Tn.bitT v m j) HE.out
               exact ⟨k + 1, by omega, by go_num, (((H0.out.gr ((Gr.refl wr).drew.trans (hh1.trans hh2))).other (by omega) _).other (by omega) _), (((H1.out.gr ((Gr.refl wr).drew.trans (hh1.trans hh2))).other (by omega) _).other (by omega) _), (by rw [hacc.1, hacc.2]; exact (H2.out.gr ((Gr.refl wr).drew.trans (hh1.trans hh2))).set _ _), ((HG.out.trans ((Gr.refl wr).drew.trans (hh1.trans hh2))).set (by omega) _).set (by omega) _⟩)
            | (simp [intOf]; omega))
        · by_cases hd : k + n = 63
          · have g2 : IntKind.i64.wrap ((k : Int) + (n : Int)) = (k : Int) + (n : Int) := IntWalk.i64_in _ ⟨by omega, by omega⟩
            have g3 : IntKind.i64.wrap (n : Int) = (n : Int) := IntWalk.i64_in _ ⟨by omega, by omega⟩
            have g9 : (k : Int) + (n : Int) = 63 := by omega
            have HE : Hid (shF 2 n v m k = Tn.bitT v m (63)) := by show Tn.bitT v m (min (k + n) 63) = _; rw [show min (k + n) 63 = 63 by omega]
            have hj : 63 < 64 := by omega
            have d00 := (H0.out.drew).c0
            have d01 := (H0.out.drew).c1
            have c00 := H0.out.c0
            have c01 := H0.out.c1
            have d20 := (H2.out.drew).c0
            have d21 := (H2.out.drew).c1
            have c20 := H2.out.c0
            have c21 := H2.out.c1
            have f20 := H2.out.f0 0
            have f21 := H2.out.f0 1
            go_wp2_with fail
            go_region_with (first
              | (go_at_call 43; refine (bit_gr _ _ hj _).mono ?_; rintro e w1 ⟨rfl, hh1⟩; have hx := H2.out.gr ((Gr.refl wr).drew.trans hh1); replace c20 := hx.c0; replace c21 := hx.c1; replace f20 := hx.f0 0; replace f21 := hx.f0 1; clear hx)
              | (go_at_call 44; refine (put_gr _ _ hlt (Tn.bitT_le _ _ _) _).mono ?_; rintro e w2 ⟨rfl, hh2⟩; have hx := H2.out.gr ((Gr.refl wr).drew.trans (hh1.trans hh2)); replace c20 := hx.c0; replace c21 := hx.c1; replace f20 := hx.f0 0; replace f21 := hx.f0 1; clear hx))
            all_goals go_wp2
            all_goals go_roundw
            all_goals (first
              | (have hacc := acc_put (fun i => shF 2 n v m i) k (Tn.bitT v m 63) HE.out
                 exact ⟨k + 1, by omega, by go_num, (((H0.out.gr ((Gr.refl wr).drew.trans (hh1.trans hh2))).other (by omega) _).other (by omega) _), (((H1.out.gr ((Gr.refl wr).drew.trans (hh1.trans hh2))).other (by omega) _).other (by omega) _), (by rw [hacc.1, hacc.2]; exact (H2.out.gr ((Gr.refl wr).drew.trans (hh1.trans hh2))).set _ _), ((HG.out.trans ((Gr.refl wr).drew.trans (hh1.trans hh2))).set (by omega) _).set (by omega) _⟩)
              | (simp [intOf]; omega))
          · have hd2 : 63 < k + n := by omega
            have hd3 : (63 : Int) < (k : Int) + (n : Int) := by omega
            have g2 : IntKind.i64.wrap ((k : Int) + (n : Int)) = (k : Int) + (n : Int) := IntWalk.i64_in _ ⟨by omega, by omega⟩
            have g3 : IntKind.i64.wrap (n : Int) = (n : Int) := IntWalk.i64_in _ ⟨by omega, by omega⟩
            have g9 : min ((k : Int) + (n : Int)) 63 = 63 := by omega
            have HE : Hid (shF 2 n v m k = Tn.bitT v m (63)) := by show Tn.bitT v m (min (k + n) 63) = _; rw [show min (k + n) 63 = 63 by omega]
            have hj : 63 < 64 := by omega
            have d00 := (H0.out.drew).c0
            have d01 := (H0.out.drew).c1
            have c00 := H0.out.c0
            have c01 := H0.out.c1
            have d20 := (H2.out.drew).c0
            have d21 := (H2.out.drew).c1
            have c20 := H2.out.c0
            have c21 := H2.out.c1
            have f20 := H2.out.f0 0
            have f21 := H2.out.f0 1
            go_wp2_with fail
            go_region_with (first
              | (go_at_call 43; refine (bit_gr _ _ hj _).mono ?_; rintro e w1 ⟨rfl, hh1⟩; have hx := H2.out.gr ((Gr.refl wr).drew.trans hh1); replace c20 := hx.c0; replace c21 := hx.c1; replace f20 := hx.f0 0; replace f21 := hx.f0 1; clear hx)
              | (go_at_call 44; refine (put_gr _ _ hlt (Tn.bitT_le _ _ _) _).mono ?_; rintro e w2 ⟨rfl, hh2⟩; have hx := H2.out.gr ((Gr.refl wr).drew.trans (hh1.trans hh2)); replace c20 := hx.c0; replace c21 := hx.c1; replace f20 := hx.f0 0; replace f21 := hx.f0 1; clear hx))
            all_goals go_wp2
            all_goals go_roundw
            all_goals (first
              | (have hacc := acc_put (fun i => shF 2 n v m i) k (Tn.bitT v m 63) HE.out
                 exact ⟨k + 1, by omega, by go_num, (((H0.out.gr ((Gr.refl wr).drew.trans (hh1.trans hh2))).other (by omega) _).other (by omega) _), (((H1.out.gr ((Gr.refl wr).drew.trans (hh1.trans hh2))).other (by omega) _).other (by omega) _), (by rw [hacc.1, hacc.2]; exact (H2.out.gr ((Gr.refl wr).drew.trans (hh1.trans hh2))).set _ _), ((HG.out.trans ((Gr.refl wr).drew.trans (hh1.trans hh2))).set (by omega) _).set (by omega) _⟩)
              | (simp [intOf]; omega))
    · obtain rfl : k = 64 := by omega
      have hx := H1.out.gr (Gr.refl wr)
      replace c10 := hx.c0
      replace c11 := hx.c1
      replace f10 := hx.f0 0
      replace f11 := hx.f0 1
      clear hx
      have hx := H2.out.gr (Gr.refl wr)
      replace c20 := hx.c0
      replace c21 := hx.c1
      replace f20 := hx.f0 0
      replace f21 := hx.f0 1
      clear hx
      have e0 := (H1.out.set (Tn.accB (fun i => shF 2 n v m i == 1) 64) (Tn.accB (fun i => shF 2 n v m i == 2) 64)).c0
      have e1 := (H1.out.set (Tn.accB (fun i => shF 2 n v m i == 1) 64) (Tn.accB (fun i => shF 2 n v m i == 2) 64)).c1
      go_wp2
      refine bodyPost_ret (by simp [results, Try.results35, go_sem, e0, e1]; try rfl) rfl ?_
      exact ⟨rfl, (HG.out.set (by omega) _).set (by omega) _⟩

end Go.Proofs.Ytoomcnjpomdbpaa
