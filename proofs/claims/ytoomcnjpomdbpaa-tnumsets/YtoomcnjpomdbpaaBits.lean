/- Towards the statements of package tnum (layer 3): the document's answers bit by bit (Join, And, Or, Xor): contracts of its Bits, for every two sets. -/
import Derived.Test.YtoomcnjpomdbpaaBlocks
namespace Go.Proofs.Ytoomcnjpomdbpaa
open Go.ChangeShapes Go.WideShapes Go.ChangeAt Go.RowKit
set_option linter.unusedVariables false
set_option maxRecDepth 20000

theorem bit_gr (v m : BitVec 64) {k : Nat} (hk : k < 64) (w : World) : Calls Try.prog 43 #[.agg #[.int .u64 (iv v), .int .u64 (iv m)], .int .i64 (k : Int)] w fun e w' => e = .returned (.int .i64 (Tn.bitT v m k : Nat)) ∧ Gr w w' :=
  (bit_any v m k hk w).mono fun e w' ⟨he, hw⟩ => ⟨he, hw ▸ (Gr.refl w).alloc _ _⟩
theorem put_gr0 (v m : BitVec 64) {k : Nat} (hk : k < 64) (w : World) : Calls Try.prog 44 #[.agg #[.int .u64 (iv v), .int .u64 (iv m)], .int .i64 (k : Int), .int .i64 0] w fun e w' => e = .returned (.agg #[.int .u64 (iv (putV v k 0)), .int .u64 (iv (putM m k 0))]) ∧ Gr w w' :=
  (put0 v m k hk w).mono fun e w' ⟨he, hw⟩ => ⟨he, hw ▸ ((Gr.refl w).alloc _ _).alloc _ _⟩
theorem put_gr1 (v m : BitVec 64) {k : Nat} (hk : k < 64) (w : World) : Calls Try.prog 44 #[.agg #[.int .u64 (iv v), .int .u64 (iv m)], .int .i64 (k : Int), .int .i64 1] w fun e w' => e = .returned (.agg #[.int .u64 (iv (putV v k 1)), .int .u64 (iv (putM m k 1))]) ∧ Gr w w' :=
  (put1 v m k hk w).mono fun e w' ⟨he, hw⟩ => ⟨he, hw ▸ ((Gr.refl w).alloc _ _).alloc _ _⟩
theorem put_gr2 (v m : BitVec 64) {k : Nat} (hk : k < 64) (w : World) : Calls Try.prog 44 #[.agg #[.int .u64 (iv v), .int .u64 (iv m)], .int .i64 (k : Int), .int .i64 2] w fun e w' => e = .returned (.agg #[.int .u64 (iv (putV v k 2)), .int .u64 (iv (putM m k 2))]) ∧ Gr w w' :=
  (put2 v m k hk w).mono fun e w' ⟨he, hw⟩ => ⟨he, hw ▸ ((Gr.refl w).alloc _ _).alloc _ _⟩
theorem put_gr (v m : BitVec 64) {k z : Nat} (hk : k < 64) (hz : z ≤ 2) (w : World) : Calls Try.prog 44 #[.agg #[.int .u64 (iv v), .int .u64 (iv m)], .int .i64 (k : Int), .int .i64 (z : Int)] w fun e w' => e = .returned (.agg #[.int .u64 (iv (putV v k z)), .int .u64 (iv (putM m k z))]) ∧ Gr w w' :=
  (put_any v m k z hk hz w).mono fun e w' ⟨he, hw⟩ => ⟨he, hw ▸ ((Gr.refl w).alloc _ _).alloc _ _⟩
theorem acc0 (f : Nat → Bool) : Tn.accB f 0 = 0#64 := rfl
theorem acc_put (F : Nat → Nat) (k z : Nat) (h : F k = z) : Tn.accB (fun i => F i == 1) (k + 1) = putV (Tn.accB (fun i => F i == 1) k) k z ∧ Tn.accB (fun i => F i == 2) (k + 1) = putM (Tn.accB (fun i => F i == 2) k) k z := by
  subst h
  constructor
  · show (if F k == 1 then _ else _) = (if F k = 1 then _ else _)
    by_cases e : F k = 1
    · rw [if_pos e, if_pos (beq_iff_eq.2 e)]
    · rw [if_neg e, if_neg (fun h => e (beq_iff_eq.1 h))]
  · show (if F k == 2 then _ else _) = (if F k = 2 then _ else _)
    by_cases e : F k = 2
    · rw [if_pos e, if_pos (beq_iff_eq.2 e)]
    · rw [if_neg e, if_neg (fun h => e (beq_iff_eq.1 h))]

set_option maxHeartbeats 4000000 in
theorem bits_join (av am bv bm : BitVec 64) (w : World) : Calls Try.prog 21 #[.agg #[.int .u64 (iv av), .int .u64 (iv am)], .agg #[.int .u64 (iv bv), .int .u64 (iv bm)], .int .i64 0] w fun e w' => e = .returned (.agg #[.int .u64 (iv (Tn.mkV fun i => Tn.joinF (Tn.bitT av am i) (Tn.bitT bv bm i))), .int .u64 (iv (Tn.mkM fun i => Tn.joinF (Tn.bitT av am i) (Tn.bitT bv bm i)))]) ∧ Gr w w' := by
  unfold Tn.mkV Tn.mkM
  go_enter Try.func21, Try.ntmps21
  go_wp2_with fail
  go_loopw [8] (fun i wr => ∃ k : Nat, k ≤ 64 ∧ i = .int .i64 k ∧ At wr w.heap.size av am ∧ At wr (w.heap.size + 1) bv bm ∧ At wr (w.heap.size + 1 + 1) 0#64 0#64 ∧ At wr (w.heap.size + 1 + 1 + 1) (Tn.accB (fun i => Tn.joinF (Tn.bitT av am i) (Tn.bitT bv bm i) == 1) k) (Tn.accB (fun i => Tn.joinF (Tn.bitT av am i) (Tn.bitT bv bm i) == 2) k) ∧ Gr w wr) (fun i _ => 64 - (intOf i).toNat)
  case atStart => exact ⟨0, by omega, rfl, ((((At.newb _ (by simp) av am).alloc _).alloc _).alloc _), (((At.newb _ (by simp) bv bm).alloc _).alloc _), ((At.newz _ (by simp)).alloc _), (At.newz _ (by simp)), by go_grown, by go_grown⟩
  case round =>
    obtain ⟨k, hk, rfl, h0, h1, h2, h3, hg⟩ := hrel
    have H0 : Hid (At wr w.heap.size av am) := h0
    have H1 : Hid (At wr (w.heap.size + 1) bv bm) := h1
    have H2 : Hid (At wr (w.heap.size + 1 + 1) 0#64 0#64) := h2
    have H3 : Hid (At wr (w.heap.size + 1 + 1 + 1) (Tn.accB (fun i => Tn.joinF (Tn.bitT av am i) (Tn.bitT bv bm i) == 1) k) (Tn.accB (fun i => Tn.joinF (Tn.bitT av am i) (Tn.bitT bv bm i) == 2) k)) := h3
    have HG : Hid (Gr w wr) := hg
    clear h0 h1 h2 h3 hg
    by_cases hlt : k < 64
    · have p00 : ∀ p : GrBy wr, p.to.cell? ⟨w.heap.size, 0, none⟩ = _ := fun p => (H0.out.gr p.gr).c0
      have p01 : ∀ p : GrBy wr, p.to.cell? ⟨w.heap.size, 1, none⟩ = _ := fun p => (H0.out.gr p.gr).c1
      have p10 : ∀ p : GrBy wr, p.to.cell? ⟨w.heap.size + 1, 0, none⟩ = _ := fun p => (H1.out.gr p.gr).c0
      have p11 : ∀ p : GrBy wr, p.to.cell? ⟨w.heap.size + 1, 1, none⟩ = _ := fun p => (H1.out.gr p.gr).c1
      rcases Tn.bit_cases av am k with ea | ea | ea
      · rcases Tn.bit_cases bv bm k with eb | eb | eb
        · have HE : Hid (Tn.joinF (Tn.bitT av am k) (Tn.bitT bv bm k) = 0) := by rw [ea, eb]; rfl
          go_wp2_with fail
          have hne : Nonempty (GrBy wr) := ⟨⟨wr, Gr.refl wr⟩⟩
          refine wp_region_gr (by kernel_rfl) (by kernel_rfl) ?_
          repeat (first
            | go_big_quiet_skip
            | (go_big_quiet_want; go_big_quiet_op; first
              | go_big_quiet_on
              | (apply Exists.intro
                 refine ⟨fun p => ?_, ?_⟩
                 · first
                     | (go_at_call 43; exact calls_gr (bit_gr _ _ hlt _))
                 go_big_quiet_on)))
          refine wpQuiet_nil ?_
          intro _ hw'
          obtain ⟨p, rfl⟩ := hw'
          have hx := H3.out.gr p.gr
          replace c30 := hx.c0
          replace c31 := hx.c1
          replace f30 := hx.f0 0
          replace f31 := hx.f0 1
          clear hx
          go_wp2_with (first
            | (go_at_call 44; refine (put_gr0 _ _ hlt _).mono ?_; rintro e w' ⟨rfl, hh⟩; have hx := H3.out.gr (p.gr.trans hh); replace c30 := hx.c0; replace c31 := hx.c1; replace f30 := hx.f0 0; replace f31 := hx.f0 1; clear hx))
          go_roundw
          case rel =>
            have hacc := acc_put (fun i => Tn.joinF (Tn.bitT av am i) (Tn.bitT bv bm i)) k 0 HE.out
            exact ⟨k + 1, by omega, by go_num, (((H0.out.gr (p.gr.trans hh)).other (by omega) _).other (by omega) _), (((H1.out.gr (p.gr.trans hh)).other (by omega) _).other (by omega) _), (((H2.out.gr (p.gr.trans hh)).other (by omega) _).other (by omega) _), (by rw [hacc.1, hacc.2]; exact (H3.out.gr (p.gr.trans hh)).set _ _), ((HG.out.trans (p.gr.trans hh)).set (by omega) _).set (by omega) _⟩
          case measure => simp [intOf]; omega
        · have HE : Hid (Tn.joinF (Tn.bitT av am k) (Tn.bitT bv bm k) = 2) := by rw [ea, eb]; rfl
          go_wp2_with fail
          have hne : Nonempty (GrBy wr) := ⟨⟨wr, Gr.refl wr⟩⟩
          refine wp_region_gr (by kernel_rfl) (by kernel_rfl) ?_
          repeat (first
            | go_big_quiet_skip
            | (go_big_quiet_want; go_big_quiet_op; first
              | go_big_quiet_on
              | (apply Exists.intro
                 refine ⟨fun p => ?_, ?_⟩
                 · first
                     | (go_at_call 43; exact calls_gr (bit_gr _ _ hlt _))
                 go_big_quiet_on)))
          refine wpQuiet_nil ?_
          intro _ hw'
          obtain ⟨p, rfl⟩ := hw'
          have hx := H3.out.gr p.gr
          replace c30 := hx.c0
          replace c31 := hx.c1
          replace f30 := hx.f0 0
          replace f31 := hx.f0 1
          clear hx
          go_wp2_with (first
            | (go_at_call 44; refine (put_gr2 _ _ hlt _).mono ?_; rintro e w' ⟨rfl, hh⟩; have hx := H3.out.gr (p.gr.trans hh); replace c30 := hx.c0; replace c31 := hx.c1; replace f30 := hx.f0 0; replace f31 := hx.f0 1; clear hx))
          go_roundw
          case rel =>
            have hacc := acc_put (fun i => Tn.joinF (Tn.bitT av am i) (Tn.bitT bv bm i)) k 2 HE.out
            exact ⟨k + 1, by omega, by go_num, (((H0.out.gr (p.gr.trans hh)).other (by omega) _).other (by omega) _), (((H1.out.gr (p.gr.trans hh)).other (by omega) _).other (by omega) _), (((H2.out.gr (p.gr.trans hh)).other (by omega) _).other (by omega) _), (by rw [hacc.1, hacc.2]; exact (H3.out.gr (p.gr.trans hh)).set _ _), ((HG.out.trans (p.gr.trans hh)).set (by omega) _).set (by omega) _⟩
          case measure => simp [intOf]; omega
        · have HE : Hid (Tn.joinF (Tn.bitT av am k) (Tn.bitT bv bm k) = 2) := by rw [ea, eb]; rfl
          go_wp2_with fail
          have hne : Nonempty (GrBy wr) := ⟨⟨wr, Gr.refl wr⟩⟩
          refine wp_region_gr (by kernel_rfl) (by kernel_rfl) ?_
          repeat (first
            | go_big_quiet_skip
            | (go_big_quiet_want; go_big_quiet_op; first
              | go_big_quiet_on
              | (apply Exists.intro
                 refine ⟨fun p => ?_, ?_⟩
                 · first
                     | (go_at_call 43; exact calls_gr (bit_gr _ _ hlt _))
                 go_big_quiet_on)))
          refine wpQuiet_nil ?_
          intro _ hw'
          obtain ⟨p, rfl⟩ := hw'
          have hx := H3.out.gr p.gr
          replace c30 := hx.c0
          replace c31 := hx.c1
          replace f30 := hx.f0 0
          replace f31 := hx.f0 1
          clear hx
          go_wp2_with (first
            | (go_at_call 44; refine (put_gr2 _ _ hlt _).mono ?_; rintro e w' ⟨rfl, hh⟩; have hx := H3.out.gr (p.gr.trans hh); replace c30 := hx.c0; replace c31 := hx.c1; replace f30 := hx.f0 0; replace f31 := hx.f0 1; clear hx))
          go_roundw
          case rel =>
            have hacc := acc_put (fun i => Tn.joinF (Tn.bitT av am i) (Tn.bitT bv bm i)) k 2 HE.out
            exact ⟨k + 1, by omega, by go_num, (((H0.out.gr (p.gr.trans hh)).other (by omega) _).other (by omega) _), (((H1.out.gr (p.gr.trans hh)).other (by omega) _).other (by omega) _), (((H2.out.gr (p.gr.trans hh)).other (by omega) _).other (by omega) _), (by rw [hacc.1, hacc.2]; exact (H3.out.gr (p.gr.trans hh)).set _ _), ((HG.out.trans (p.gr.trans hh)).set (by omega) _).set (by omega) _⟩
          case measure => simp [intOf]; omega
      · rcases Tn.bit_cases bv bm k with eb | eb | eb
        · have HE : Hid (Tn.joinF (Tn.bitT av am k) (Tn.bitT bv bm k) = 2) := by rw [ea, eb]; rfl
          go_wp2_with fail
          have hne : Nonempty (GrBy wr) := ⟨⟨wr, Gr.refl wr⟩⟩
          refine wp_region_gr (by kernel_rfl) (by kernel_rfl) ?_
          repeat (first
            | go_big_quiet_skip
            | (go_big_quiet_want; go_big_quiet_op; first
              | go_big_quiet_on
              | (apply Exists.intro
                 refine ⟨fun p => ?_, ?_⟩
                 · first
                     | (go_at_call 43; exact calls_gr (bit_gr _ _ hlt _))
                 go_big_quiet_on)))
          refine wpQuiet_nil ?_
          intro _ hw'
          obtain ⟨p, rfl⟩ := hw'
          have hx := H3.out.gr p.gr
          replace c30 := hx.c0
          replace c31 := hx.c1
          replace f30 := hx.f0 0
          replace f31 := hx.f0 1
          clear hx
          go_wp2_with (first
            | (go_at_call 44; refine (put_gr2 _ _ hlt _).mono ?_; rintro e w' ⟨rfl, hh⟩; have hx := H3.out.gr (p.gr.trans hh); replace c30 := hx.c0; replace c31 := hx.c1; replace f30 := hx.f0 0; replace f31 := hx.f0 1; clear hx))
          go_roundw
          case rel =>
            have hacc := acc_put (fun i => Tn.joinF (Tn.bitT av am i) (Tn.bitT bv bm i)) k 2 HE.out
            exact ⟨k + 1, by omega, by go_num, (((H0.out.gr (p.gr.trans hh)).other (by omega) _).other (by omega) _), (((H1.out.gr (p.gr.trans hh)).other (by omega) _).other (by omega) _), (((H2.out.gr (p.gr.trans hh)).other (by omega) _).other (by omega) _), (by rw [hacc.1, hacc.2]; exact (H3.out.gr (p.gr.trans hh)).set _ _), ((HG.out.trans (p.gr.trans hh)).set (by omega) _).set (by omega) _⟩
          case measure => simp [intOf]; omega
        · have HE : Hid (Tn.joinF (Tn.bitT av am k) (Tn.bitT bv bm k) = 1) := by rw [ea, eb]; rfl
          go_wp2_with fail
          have hne : Nonempty (GrBy wr) := ⟨⟨wr, Gr.refl wr⟩⟩
          refine wp_region_gr (by kernel_rfl) (by kernel_rfl) ?_
          repeat (first
            | go_big_quiet_skip
            | (go_big_quiet_want; go_big_quiet_op; first
              | go_big_quiet_on
              | (apply Exists.intro
                 refine ⟨fun p => ?_, ?_⟩
                 · first
                     | (go_at_call 43; exact calls_gr (bit_gr _ _ hlt _))
                 go_big_quiet_on)))
          refine wpQuiet_nil ?_
          intro _ hw'
          obtain ⟨p, rfl⟩ := hw'
          have hx := H3.out.gr p.gr
          replace c30 := hx.c0
          replace c31 := hx.c1
          replace f30 := hx.f0 0
          replace f31 := hx.f0 1
          clear hx
          go_wp2_with (first
            | (go_at_call 44; refine (put_gr1 _ _ hlt _).mono ?_; rintro e w' ⟨rfl, hh⟩; have hx := H3.out.gr (p.gr.trans hh); replace c30 := hx.c0; replace c31 := hx.c1; replace f30 := hx.f0 0; replace f31 := hx.f0 1; clear hx))
          go_roundw
          case rel =>
            have hacc := acc_put (fun i => Tn.joinF (Tn.bitT av am i) (Tn.bitT bv bm i)) k 1 HE.out
            exact ⟨k + 1, by omega, by go_num, (((H0.out.gr (p.gr.trans hh)).other (by omega) _).other (by omega) _), (((H1.out.gr (p.gr.trans hh)).other (by omega) _).other (by omega) _), (((H2.out.gr (p.gr.trans hh)).other (by omega) _).other (by omega) _), (by rw [hacc.1, hacc.2]; exact (H3.out.gr (p.gr.trans hh)).set _ _), ((HG.out.trans (p.gr.trans hh)).set (by omega) _).set (by omega) _⟩
          case measure => simp [intOf]; omega
        · have HE : Hid (Tn.joinF (Tn.bitT av am k) (Tn.bitT bv bm k) = 2) := by rw [ea, eb]; rfl
          go_wp2_with fail
          have hne : Nonempty (GrBy wr) := ⟨⟨wr, Gr.refl wr⟩⟩
          refine wp_region_gr (by kernel_rfl) (by kernel_rfl) ?_
          repeat (first
            | go_big_quiet_skip
            | (go_big_quiet_want; go_big_quiet_op; first
              | go_big_quiet_on
              | (apply Exists.intro
                 refine ⟨fun p => ?_, ?_⟩
                 · first
                     | (go_at_call 43; exact calls_gr (bit_gr _ _ hlt _))
                 go_big_quiet_on)))
          refine wpQuiet_nil ?_
          intro _ hw'
          obtain ⟨p, rfl⟩ := hw'
          have hx := H3.out.gr p.gr
          replace c30 := hx.c0
          replace c31 := hx.c1
          replace f30 := hx.f0 0
          replace f31 := hx.f0 1
          clear hx
          go_wp2_with (first
            | (go_at_call 44; refine (put_gr2 _ _ hlt _).mono ?_; rintro e w' ⟨rfl, hh⟩; have hx := H3.out.gr (p.gr.trans hh); replace c30 := hx.c0; replace c31 := hx.c1; replace f30 := hx.f0 0; replace f31 := hx.f0 1; clear hx))
          go_roundw
          case rel =>
            have hacc := acc_put (fun i => Tn.joinF (Tn.bitT av am i) (Tn.bitT bv bm i)) k 2 HE.out
            exact ⟨k + 1, by omega, by go_num, (((H0.out.gr (p.gr.trans hh)).other (by omega) _).other (by omega) _), (((H1.out.gr (p.gr.trans hh)).other (by omega) _).other (by omega) _), (((H2.out.gr (p.gr.trans hh)).other (by omega) _).other (by omega) _), (by rw [hacc.1, hacc.2]; exact (H3.out.gr (p.gr.trans hh)).set _ _), ((HG.out.trans (p.gr.trans hh)).set (by omega) _).set (by omega) _⟩
          case measure => simp [intOf]; omega
      · rcases Tn.bit_cases bv bm k with eb | eb | eb
        · have HE : Hid (Tn.joinF (Tn.bitT av am k) (Tn.bitT bv bm k) = 2) := by rw [ea, eb]; rfl
          go_wp2_with fail
          have hne : Nonempty (GrBy wr) := ⟨⟨wr, Gr.refl wr⟩⟩
          refine wp_region_gr (by kernel_rfl) (by kernel_rfl) ?_
          repeat (first
            | go_big_quiet_skip
            | (go_big_quiet_want; go_big_quiet_op; first
              | go_big_quiet_on
              | (apply Exists.intro
                 refine ⟨fun p => ?_, ?_⟩
                 · first
                     | (go_at_call 43; exact calls_gr (bit_gr _ _ hlt _))
                 go_big_quiet_on)))
          refine wpQuiet_nil ?_
          intro _ hw'
          obtain ⟨p, rfl⟩ := hw'
          have hx := H3.out.gr p.gr
          replace c30 := hx.c0
          replace c31 := hx.c1
          replace f30 := hx.f0 0
          replace f31 := hx.f0 1
          clear hx
          go_wp2_with (first
            | (go_at_call 44; refine (put_gr2 _ _ hlt _).mono ?_; rintro e w' ⟨rfl, hh⟩; have hx := H3.out.gr (p.gr.trans hh); replace c30 := hx.c0; replace c31 := hx.c1; replace f30 := hx.f0 0; replace f31 := hx.f0 1; clear hx))
          go_roundw
          case rel =>
            have hacc := acc_put (fun i => Tn.joinF (Tn.bitT av am i) (Tn.bitT bv bm i)) k 2 HE.out
            exact ⟨k + 1, by omega, by go_num, (((H0.out.gr (p.gr.trans hh)).other (by omega) _).other (by omega) _), (((H1.out.gr (p.gr.trans hh)).other (by omega) _).other (by omega) _), (((H2.out.gr (p.gr.trans hh)).other (by omega) _).other (by omega) _), (by rw [hacc.1, hacc.2]; exact (H3.out.gr (p.gr.trans hh)).set _ _), ((HG.out.trans (p.gr.trans hh)).set (by omega) _).set (by omega) _⟩
          case measure => simp [intOf]; omega
        · have HE : Hid (Tn.joinF (Tn.bitT av am k) (Tn.bitT bv bm k) = 2) := by rw [ea, eb]; rfl
          go_wp2_with fail
          have hne : Nonempty (GrBy wr) := ⟨⟨wr, Gr.refl wr⟩⟩
          refine wp_region_gr (by kernel_rfl) (by kernel_rfl) ?_
          repeat (first
            | go_big_quiet_skip
            | (go_big_quiet_want; go_big_quiet_op; first
              | go_big_quiet_on
              | (apply Exists.intro
                 refine ⟨fun p => ?_, ?_⟩
                 · first
                     | (go_at_call 43; exact calls_gr (bit_gr _ _ hlt _))
                 go_big_quiet_on)))
          refine wpQuiet_nil ?_
          intro _ hw'
          obtain ⟨p, rfl⟩ := hw'
          have hx := H3.out.gr p.gr
          replace c30 := hx.c0
          replace c31 := hx.c1
          replace f30 := hx.f0 0
          replace f31 := hx.f0 1
          clear hx
          go_wp2_with (first
            | (go_at_call 44; refine (put_gr2 _ _ hlt _).mono ?_; rintro e w' ⟨rfl, hh⟩; have hx := H3.out.gr (p.gr.trans hh); replace c30 := hx.c0; replace c31 := hx.c1; replace f30 := hx.f0 0; replace f31 := hx.f0 1; clear hx))
          go_roundw
          case rel =>
            have hacc := acc_put (fun i => Tn.joinF (Tn.bitT av am i) (Tn.bitT bv bm i)) k 2 HE.out
            exact ⟨k + 1, by omega, by go_num, (((H0.out.gr (p.gr.trans hh)).other (by omega) _).other (by omega) _), (((H1.out.gr (p.gr.trans hh)).other (by omega) _).other (by omega) _), (((H2.out.gr (p.gr.trans hh)).other (by omega) _).other (by omega) _), (by rw [hacc.1, hacc.2]; exact (H3.out.gr (p.gr.trans hh)).set _ _), ((HG.out.trans (p.gr.trans hh)).set (by omega) _).set (by omega) _⟩
          case measure => simp [intOf]; omega
        · have HE : Hid (Tn.joinF (Tn.bitT av am k) (Tn.bitT bv bm k) = 2) := by rw [ea, eb]; rfl
          go_wp2_with fail
          have hne : Nonempty (GrBy wr) := ⟨⟨wr, Gr.refl wr⟩⟩
          refine wp_region_gr (by kernel_rfl) (by kernel_rfl) ?_
          repeat (first
            | go_big_quiet_skip
            | (go_big_quiet_want; go_big_quiet_op; first
              | go_big_quiet_on
              | (apply Exists.intro
                 refine ⟨fun p => ?_, ?_⟩
                 · first
                     | (go_at_call 43; exact calls_gr (bit_gr _ _ hlt _))
                 go_big_quiet_on)))
          refine wpQuiet_nil ?_
          intro _ hw'
          obtain ⟨p, rfl⟩ := hw'
          have hx := H3.out.gr p.gr
          replace c30 := hx.c0
          replace c31 := hx.c1
          replace f30 := hx.f0 0
          replace f31 := hx.f0 1
          clear hx
          go_wp2_with (first
            | (go_at_call 44; refine (put_gr2 _ _ hlt _).mono ?_; rintro e w' ⟨rfl, hh⟩; have hx := H3.out.gr (p.gr.trans hh); replace c30 := hx.c0; replace c31 := hx.c1; replace f30 := hx.f0 0; replace f31 := hx.f0 1; clear hx))
          go_roundw
          case rel =>
            have hacc := acc_put (fun i => Tn.joinF (Tn.bitT av am i) (Tn.bitT bv bm i)) k 2 HE.out
            exact ⟨k + 1, by omega, by go_num, (((H0.out.gr (p.gr.trans hh)).other (by omega) _).other (by omega) _), (((H1.out.gr (p.gr.trans hh)).other (by omega) _).other (by omega) _), (((H2.out.gr (p.gr.trans hh)).other (by omega) _).other (by omega) _), (by rw [hacc.1, hacc.2]; exact (H3.out.gr (p.gr.trans hh)).set _ _), ((HG.out.trans (p.gr.trans hh)).set (by omega) _).set (by omega) _⟩
          case measure => simp [intOf]; omega
    · obtain rfl : k = 64 := by omega
      have hx := H2.out.gr (Gr.refl wr)
      replace c20 := hx.c0
      replace c21 := hx.c1
      replace f20 := hx.f0 0
      replace f21 := hx.f0 1
      clear hx
      have hx := H3.out.gr (Gr.refl wr)
      replace c30 := hx.c0
      replace c31 := hx.c1
      replace f30 := hx.f0 0
      replace f31 := hx.f0 1
      clear hx
      have e0 := (H2.out.set (Tn.accB (fun i => Tn.joinF (Tn.bitT av am i) (Tn.bitT bv bm i) == 1) 64) (Tn.accB (fun i => Tn.joinF (Tn.bitT av am i) (Tn.bitT bv bm i) == 2) 64)).c0
      have e1 := (H2.out.set (Tn.accB (fun i => Tn.joinF (Tn.bitT av am i) (Tn.bitT bv bm i) == 1) 64) (Tn.accB (fun i => Tn.joinF (Tn.bitT av am i) (Tn.bitT bv bm i) == 2) 64)).c1
      go_wp2
      refine bodyPost_ret (by simp [results, Try.results21, go_sem, e0, e1]; try rfl) rfl ?_
      exact ⟨rfl, (HG.out.set (by omega) _).set (by omega) _⟩
set_option maxHeartbeats 4000000 in
theorem bits_and (av am bv bm : BitVec 64) (w : World) : Calls Try.prog 21 #[.agg #[.int .u64 (iv av), .int .u64 (iv am)], .agg #[.int .u64 (iv bv), .int .u64 (iv bm)], .int .i64 1] w fun e w' => e = .returned (.agg #[.int .u64 (iv (Tn.mkV fun i => Tn.andF (Tn.bitT av am i) (Tn.bitT bv bm i))), .int .u64 (iv (Tn.mkM fun i => Tn.andF (Tn.bitT av am i) (Tn.bitT bv bm i)))]) ∧ Gr w w' := by
  unfold Tn.mkV Tn.mkM
  go_enter Try.func21, Try.ntmps21
  go_wp2_with fail
  go_loopw [8] (fun i wr => ∃ k : Nat, k ≤ 64 ∧ i = .int .i64 k ∧ At wr w.heap.size av am ∧ At wr (w.heap.size + 1) bv bm ∧ At wr (w.heap.size + 1 + 1) 0#64 0#64 ∧ At wr (w.heap.size + 1 + 1 + 1) (Tn.accB (fun i => Tn.andF (Tn.bitT av am i) (Tn.bitT bv bm i) == 1) k) (Tn.accB (fun i => Tn.andF (Tn.bitT av am i) (Tn.bitT bv bm i) == 2) k) ∧ Gr w wr) (fun i _ => 64 - (intOf i).toNat)
  case atStart => exact ⟨0, by omega, rfl, ((((At.newb _ (by simp) av am).alloc _).alloc _).alloc _), (((At.newb _ (by simp) bv bm).alloc _).alloc _), ((At.newz _ (by simp)).alloc _), (At.newz _ (by simp)), by go_grown, by go_grown⟩
  case round =>
    obtain ⟨k, hk, rfl, h0, h1, h2, h3, hg⟩ := hrel
    have H0 : Hid (At wr w.heap.size av am) := h0
    have H1 : Hid (At wr (w.heap.size + 1) bv bm) := h1
    have H2 : Hid (At wr (w.heap.size + 1 + 1) 0#64 0#64) := h2
    have H3 : Hid (At wr (w.heap.size + 1 + 1 + 1) (Tn.accB (fun i => Tn.andF (Tn.bitT av am i) (Tn.bitT bv bm i) == 1) k) (Tn.accB (fun i => Tn.andF (Tn.bitT av am i) (Tn.bitT bv bm i) == 2) k)) := h3
    have HG : Hid (Gr w wr) := hg
    clear h0 h1 h2 h3 hg
    by_cases hlt : k < 64
    · have p00 : ∀ p : GrBy wr, p.to.cell? ⟨w.heap.size, 0, none⟩ = _ := fun p => (H0.out.gr p.gr).c0
      have p01 : ∀ p : GrBy wr, p.to.cell? ⟨w.heap.size, 1, none⟩ = _ := fun p => (H0.out.gr p.gr).c1
      have p10 : ∀ p : GrBy wr, p.to.cell? ⟨w.heap.size + 1, 0, none⟩ = _ := fun p => (H1.out.gr p.gr).c0
      have p11 : ∀ p : GrBy wr, p.to.cell? ⟨w.heap.size + 1, 1, none⟩ = _ := fun p => (H1.out.gr p.gr).c1
      rcases Tn.bit_cases av am k with ea | ea | ea
      · rcases Tn.bit_cases bv bm k with eb | eb | eb
        · have HE : Hid (Tn.andF (Tn.bitT av am k) (Tn.bitT bv bm k) = 0) := by rw [ea, eb]; rfl
          go_wp2_with fail
          have hne : Nonempty (GrBy wr) := ⟨⟨wr, Gr.refl wr⟩⟩
          refine wp_region_gr (by kernel_rfl) (by kernel_rfl) ?_
          repeat (first
            | go_big_quiet_skip
            | (go_big_quiet_want; go_big_quiet_op; first
              | go_big_quiet_on
              | (apply Exists.intro
                 refine ⟨fun p => ?_, ?_⟩
                 · first
                     | (go_at_call 43; exact calls_gr (bit_gr _ _ hlt _))
                 go_big_quiet_on)))
          refine wpQuiet_nil ?_
          intro _ hw'
          obtain ⟨p, rfl⟩ := hw'
          have hx := H3.out.gr p.gr
          replace c30 := hx.c0
          replace c31 := hx.c1
          replace f30 := hx.f0 0
          replace f31 := hx.f0 1
          clear hx
          go_wp2_with (first
            | (go_at_call 44; refine (put_gr0 _ _ hlt _).mono ?_; rintro e w' ⟨rfl, hh⟩; have hx := H3.out.gr (p.gr.trans hh); replace c30 := hx.c0; replace c31 := hx.c1; replace f30 := hx.f0 0; replace f31 := hx.f0 1; clear hx))
          go_roundw
          case rel =>
            have hacc := acc_put (fun i => Tn.andF (Tn.bitT av am i) (Tn.bitT bv bm i)) k 0 HE.out
            exact ⟨k + 1, by omega, by go_num, (((H0.out.gr (p.gr.trans hh)).other (by omega) _).other (by omega) _), (((H1.out.gr (p.gr.trans hh)).other (by omega) _).other (by omega) _), (((H2.out.gr (p.gr.trans hh)).other (by omega) _).other (by omega) _), (by rw [hacc.1, hacc.2]; exact (H3.out.gr (p.gr.trans hh)).set _ _), ((HG.out.trans (p.gr.trans hh)).set (by omega) _).set (by omega) _⟩
          case measure => simp [intOf]; omega
        · have HE : Hid (Tn.andF (Tn.bitT av am k) (Tn.bitT bv bm k) = 0) := by rw [ea, eb]; rfl
          go_wp2_with fail
          have hne : Nonempty (GrBy wr) := ⟨⟨wr, Gr.refl wr⟩⟩
          refine wp_region_gr (by kernel_rfl) (by kernel_rfl) ?_
          repeat (first
            | go_big_quiet_skip
            | (go_big_quiet_want; go_big_quiet_op; first
              | go_big_quiet_on
              | (apply Exists.intro
                 refine ⟨fun p => ?_, ?_⟩
                 · first
                     | (go_at_call 43; exact calls_gr (bit_gr _ _ hlt _))
                 go_big_quiet_on)))
          refine wpQuiet_nil ?_
          intro _ hw'
          obtain ⟨p, rfl⟩ := hw'
          have hx := H3.out.gr p.gr
          replace c30 := hx.c0
          replace c31 := hx.c1
          replace f30 := hx.f0 0
          replace f31 := hx.f0 1
          clear hx
          go_wp2_with (first
            | (go_at_call 44; refine (put_gr0 _ _ hlt _).mono ?_; rintro e w' ⟨rfl, hh⟩; have hx := H3.out.gr (p.gr.trans hh); replace c30 := hx.c0; replace c31 := hx.c1; replace f30 := hx.f0 0; replace f31 := hx.f0 1; clear hx))
          go_roundw
          case rel =>
            have hacc := acc_put (fun i => Tn.andF (Tn.bitT av am i) (Tn.bitT bv bm i)) k 0 HE.out
            exact ⟨k + 1, by omega, by go_num, (((H0.out.gr (p.gr.trans hh)).other (by omega) _).other (by omega) _), (((H1.out.gr (p.gr.trans hh)).other (by omega) _).other (by omega) _), (((H2.out.gr (p.gr.trans hh)).other (by omega) _).other (by omega) _), (by rw [hacc.1, hacc.2]; exact (H3.out.gr (p.gr.trans hh)).set _ _), ((HG.out.trans (p.gr.trans hh)).set (by omega) _).set (by omega) _⟩
          case measure => simp [intOf]; omega
        · have HE : Hid (Tn.andF (Tn.bitT av am k) (Tn.bitT bv bm k) = 0) := by rw [ea, eb]; rfl
          go_wp2_with fail
          have hne : Nonempty (GrBy wr) := ⟨⟨wr, Gr.refl wr⟩⟩
          refine wp_region_gr (by kernel_rfl) (by kernel_rfl) ?_
          repeat (first
            | go_big_quiet_skip
            | (go_big_quiet_want; go_big_quiet_op; first
              | go_big_quiet_on
              | (apply Exists.intro
                 refine ⟨fun p => ?_, ?_⟩
                 · first
                     | (go_at_call 43; exact calls_gr (bit_gr _ _ hlt _))
                 go_big_quiet_on)))
          refine wpQuiet_nil ?_
          intro _ hw'
          obtain ⟨p, rfl⟩ := hw'
          have hx := H3.out.gr p.gr
          replace c30 := hx.c0
          replace c31 := hx.c1
          replace f30 := hx.f0 0
          replace f31 := hx.f0 1
          clear hx
          go_wp2_with (first
            | (go_at_call 44; refine (put_gr0 _ _ hlt _).mono ?_; rintro e w' ⟨rfl, hh⟩; have hx := H3.out.gr (p.gr.trans hh); replace c30 := hx.c0; replace c31 := hx.c1; replace f30 := hx.f0 0; replace f31 := hx.f0 1; clear hx))
          go_roundw
          case rel =>
            have hacc := acc_put (fun i => Tn.andF (Tn.bitT av am i) (Tn.bitT bv bm i)) k 0 HE.out
            exact ⟨k + 1, by omega, by go_num, (((H0.out.gr (p.gr.trans hh)).other (by omega) _).other (by omega) _), (((H1.out.gr (p.gr.trans hh)).other (by omega) _).other (by omega) _), (((H2.out.gr (p.gr.trans hh)).other (by omega) _).other (by omega) _), (by rw [hacc.1, hacc.2]; exact (H3.out.gr (p.gr.trans hh)).set _ _), ((HG.out.trans (p.gr.trans hh)).set (by omega) _).set (by omega) _⟩
          case measure => simp [intOf]; omega
      · rcases Tn.bit_cases bv bm k with eb | eb | eb
        · have HE : Hid (Tn.andF (Tn.bitT av am k) (Tn.bitT bv bm k) = 0) := by rw [ea, eb]; rfl
          go_wp2_with fail
          have hne : Nonempty (GrBy wr) := ⟨⟨wr, Gr.refl wr⟩⟩
          refine wp_region_gr (by kernel_rfl) (by kernel_rfl) ?_
          repeat (first
            | go_big_quiet_skip
            | (go_big_quiet_want; go_big_quiet_op; first
              | go_big_quiet_on
              | (apply Exists.intro
                 refine ⟨fun p => ?_, ?_⟩
                 · first
                     | (go_at_call 43; exact calls_gr (bit_gr _ _ hlt _))
                 go_big_quiet_on)))
          refine wpQuiet_nil ?_
          intro _ hw'
          obtain ⟨p, rfl⟩ := hw'
          have hx := H3.out.gr p.gr
          replace c30 := hx.c0
          replace c31 := hx.c1
          replace f30 := hx.f0 0
          replace f31 := hx.f0 1
          clear hx
          go_wp2_with (first
            | (go_at_call 44; refine (put_gr0 _ _ hlt _).mono ?_; rintro e w' ⟨rfl, hh⟩; have hx := H3.out.gr (p.gr.trans hh); replace c30 := hx.c0; replace c31 := hx.c1; replace f30 := hx.f0 0; replace f31 := hx.f0 1; clear hx))
          go_roundw
          case rel =>
            have hacc := acc_put (fun i => Tn.andF (Tn.bitT av am i) (Tn.bitT bv bm i)) k 0 HE.out
            exact ⟨k + 1, by omega, by go_num, (((H0.out.gr (p.gr.trans hh)).other (by omega) _).other (by omega) _), (((H1.out.gr (p.gr.trans hh)).other (by omega) _).other (by omega) _), (((H2.out.gr (p.gr.trans hh)).other (by omega) _).other (by omega) _), (by rw [hacc.1, hacc.2]; exact (H3.out.gr (p.gr.trans hh)).set _ _), ((HG.out.trans (p.gr.trans hh)).set (by omega) _).set (by omega) _⟩
          case measure => simp [intOf]; omega
        · have HE : Hid (Tn.andF (Tn.bitT av am k) (Tn.bitT bv bm k) = 1) := by rw [ea, eb]; rfl
          go_wp2_with fail
          have hne : Nonempty (GrBy wr) := ⟨⟨wr, Gr.refl wr⟩⟩
          refine wp_region_gr (by kernel_rfl) (by kernel_rfl) ?_
          repeat (first
            | go_big_quiet_skip
            | (go_big_quiet_want; go_big_quiet_op; first
              | go_big_quiet_on
              | (apply Exists.intro
                 refine ⟨fun p => ?_, ?_⟩
                 · first
                     | (go_at_call 43; exact calls_gr (bit_gr _ _ hlt _))
                 go_big_quiet_on)))
          refine wpQuiet_nil ?_
          intro _ hw'
          obtain ⟨p, rfl⟩ := hw'
          have hx := H3.out.gr p.gr
          replace c30 := hx.c0
          replace c31 := hx.c1
          replace f30 := hx.f0 0
          replace f31 := hx.f0 1
          clear hx
          go_wp2_with (first
            | (go_at_call 44; refine (put_gr1 _ _ hlt _).mono ?_; rintro e w' ⟨rfl, hh⟩; have hx := H3.out.gr (p.gr.trans hh); replace c30 := hx.c0; replace c31 := hx.c1; replace f30 := hx.f0 0; replace f31 := hx.f0 1; clear hx))
          go_roundw
          case rel =>
            have hacc := acc_put (fun i => Tn.andF (Tn.bitT av am i) (Tn.bitT bv bm i)) k 1 HE.out
            exact ⟨k + 1, by omega, by go_num, (((H0.out.gr (p.gr.trans hh)).other (by omega) _).other (by omega) _), (((H1.out.gr (p.gr.trans hh)).other (by omega) _).other (by omega) _), (((H2.out.gr (p.gr.trans hh)).other (by omega) _).other (by omega) _), (by rw [hacc.1, hacc.2]; exact (H3.out.gr (p.gr.trans hh)).set _ _), ((HG.out.trans (p.gr.trans hh)).set (by omega) _).set (by omega) _⟩
          case measure => simp [intOf]; omega
        · have HE : Hid (Tn.andF (Tn.bitT av am k) (Tn.bitT bv bm k) = 2) := by rw [ea, eb]; rfl
          go_wp2_with fail
          have hne : Nonempty (GrBy wr) := ⟨⟨wr, Gr.refl wr⟩⟩
          refine wp_region_gr (by kernel_rfl) (by kernel_rfl) ?_
          repeat (first
            | go_big_quiet_skip
            | (go_big_quiet_want; go_big_quiet_op; first
              | go_big_quiet_on
              | (apply Exists.intro
                 refine ⟨fun p => ?_, ?_⟩
                 · first
                     | (go_at_call 43; exact calls_gr (bit_gr _ _ hlt _))
                 go_big_quiet_on)))
          refine wpQuiet_nil ?_
          intro _ hw'
          obtain ⟨p, rfl⟩ := hw'
          have hx := H3.out.gr p.gr
          replace c30 := hx.c0
          replace c31 := hx.c1
          replace f30 := hx.f0 0
          replace f31 := hx.f0 1
          clear hx
          go_wp2_with (first
            | (go_at_call 44; refine (put_gr2 _ _ hlt _).mono ?_; rintro e w' ⟨rfl, hh⟩; have hx := H3.out.gr (p.gr.trans hh); replace c30 := hx.c0; replace c31 := hx.c1; replace f30 := hx.f0 0; replace f31 := hx.f0 1; clear hx))
          go_roundw
          case rel =>
            have hacc := acc_put (fun i => Tn.andF (Tn.bitT av am i) (Tn.bitT bv bm i)) k 2 HE.out
            exact ⟨k + 1, by omega, by go_num, (((H0.out.gr (p.gr.trans hh)).other (by omega) _).other (by omega) _), (((H1.out.gr (p.gr.trans hh)).other (by omega) _).other (by omega) _), (((H2.out.gr (p.gr.trans hh)).other (by omega) _).other (by omega) _), (by rw [hacc.1, hacc.2]; exact (H3.out.gr (p.gr.trans hh)).set _ _), ((HG.out.trans (p.gr.trans hh)).set (by omega) _).set (by omega) _⟩
          case measure => simp [intOf]; omega
      · rcases Tn.bit_cases bv bm k with eb | eb | eb
        · have HE : Hid (Tn.andF (Tn.bitT av am k) (Tn.bitT bv bm k) = 0) := by rw [ea, eb]; rfl
          go_wp2_with fail
          have hne : Nonempty (GrBy wr) := ⟨⟨wr, Gr.refl wr⟩⟩
          refine wp_region_gr (by kernel_rfl) (by kernel_rfl) ?_
          repeat (first
            | go_big_quiet_skip
            | (go_big_quiet_want; go_big_quiet_op; first
              | go_big_quiet_on
              | (apply Exists.intro
                 refine ⟨fun p => ?_, ?_⟩
                 · first
                     | (go_at_call 43; exact calls_gr (bit_gr _ _ hlt _))
                 go_big_quiet_on)))
          refine wpQuiet_nil ?_
          intro _ hw'
          obtain ⟨p, rfl⟩ := hw'
          have hx := H3.out.gr p.gr
          replace c30 := hx.c0
          replace c31 := hx.c1
          replace f30 := hx.f0 0
          replace f31 := hx.f0 1
          clear hx
          go_wp2_with (first
            | (go_at_call 44; refine (put_gr0 _ _ hlt _).mono ?_; rintro e w' ⟨rfl, hh⟩; have hx := H3.out.gr (p.gr.trans hh); replace c30 := hx.c0; replace c31 := hx.c1; replace f30 := hx.f0 0; replace f31 := hx.f0 1; clear hx))
          go_roundw
          case rel =>
            have hacc := acc_put (fun i => Tn.andF (Tn.bitT av am i) (Tn.bitT bv bm i)) k 0 HE.out
            exact ⟨k + 1, by omega, by go_num, (((H0.out.gr (p.gr.trans hh)).other (by omega) _).other (by omega) _), (((H1.out.gr (p.gr.trans hh)).other (by omega) _).other (by omega) _), (((H2.out.gr (p.gr.trans hh)).other (by omega) _).other (by omega) _), (by rw [hacc.1, hacc.2]; exact (H3.out.gr (p.gr.trans hh)).set _ _), ((HG.out.trans (p.gr.trans hh)).set (by omega) _).set (by omega) _⟩
          case measure => simp [intOf]; omega
        · have HE : Hid (Tn.andF (Tn.bitT av am k) (Tn.bitT bv bm k) = 2) := by rw [ea, eb]; rfl
          go_wp2_with fail
          have hne : Nonempty (GrBy wr) := ⟨⟨wr, Gr.refl wr⟩⟩
          refine wp_region_gr (by kernel_rfl) (by kernel_rfl) ?_
          repeat (first
            | go_big_quiet_skip
            | (go_big_quiet_want; go_big_quiet_op; first
              | go_big_quiet_on
              | (apply Exists.intro
                 refine ⟨fun p => ?_, ?_⟩
                 · first
                     | (go_at_call 43; exact calls_gr (bit_gr _ _ hlt _))
                 go_big_quiet_on)))
          refine wpQuiet_nil ?_
          intro _ hw'
          obtain ⟨p, rfl⟩ := hw'
          have hx := H3.out.gr p.gr
          replace c30 := hx.c0
          replace c31 := hx.c1
          replace f30 := hx.f0 0
          replace f31 := hx.f0 1
          clear hx
          go_wp2_with (first
            | (go_at_call 44; refine (put_gr2 _ _ hlt _).mono ?_; rintro e w' ⟨rfl, hh⟩; have hx := H3.out.gr (p.gr.trans hh); replace c30 := hx.c0; replace c31 := hx.c1; replace f30 := hx.f0 0; replace f31 := hx.f0 1; clear hx))
          go_roundw
          case rel =>
            have hacc := acc_put (fun i => Tn.andF (Tn.bitT av am i) (Tn.bitT bv bm i)) k 2 HE.out
            exact ⟨k + 1, by omega, by go_num, (((H0.out.gr (p.gr.trans hh)).other (by omega) _).other (by omega) _), (((H1.out.gr (p.gr.trans hh)).other (by omega) _).other (by omega) _), (((H2.out.gr (p.gr.trans hh)).other (by omega) _).other (by omega) _), (by rw [hacc.1, hacc.2]; exact (H3.out.gr (p.gr.trans hh)).set _ _), ((HG.out.trans (p.gr.trans hh)).set (by omega) _).set (by omega) _⟩
          case measure => simp [intOf]; omega
        · have HE : Hid (Tn.andF (Tn.bitT av am k) (Tn.bitT bv bm k) = 2) := by rw [ea, eb]; rfl
          go_wp2_with fail
          have hne : Nonempty (GrBy wr) := ⟨⟨wr, Gr.refl wr⟩⟩
          refine wp_region_gr (by kernel_rfl) (by kernel_rfl) ?_
          repeat (first
            | go_big_quiet_skip
            | (go_big_quiet_want; go_big_quiet_op; first
              | go_big_quiet_on
              | (apply Exists.intro
                 refine ⟨fun p => ?_, ?_⟩
                 · first
                     | (go_at_call 43; exact calls_gr (bit_gr _ _ hlt _))
                 go_big_quiet_on)))
          refine wpQuiet_nil ?_
          intro _ hw'
          obtain ⟨p, rfl⟩ := hw'
          have hx := H3.out.gr p.gr
          replace c30 := hx.c0
          replace c31 := hx.c1
          replace f30 := hx.f0 0
          replace f31 := hx.f0 1
          clear hx
          go_wp2_with (first
            | (go_at_call 44; refine (put_gr2 _ _ hlt _).mono ?_; rintro e w' ⟨rfl, hh⟩; have hx := H3.out.gr (p.gr.trans hh); replace c30 := hx.c0; replace c31 := hx.c1; replace f30 := hx.f0 0; replace f31 := hx.f0 1; clear hx))
          go_roundw
          case rel =>
            have hacc := acc_put (fun i => Tn.andF (Tn.bitT av am i) (Tn.bitT bv bm i)) k 2 HE.out
            exact ⟨k + 1, by omega, by go_num, (((H0.out.gr (p.gr.trans hh)).other (by omega) _).other (by omega) _), (((H1.out.gr (p.gr.trans hh)).other (by omega) _).other (by omega) _), (((H2.out.gr (p.gr.trans hh)).other (by omega) _).other (by omega) _), (by rw [hacc.1, hacc.2]; exact (H3.out.gr (p.gr.trans hh)).set _ _), ((HG.out.trans (p.gr.trans hh)).set (by omega) _).set (by omega) _⟩
          case measure => simp [intOf]; omega
    · obtain rfl : k = 64 := by omega
      have hx := H2.out.gr (Gr.refl wr)
      replace c20 := hx.c0
      replace c21 := hx.c1
      replace f20 := hx.f0 0
      replace f21 := hx.f0 1
      clear hx
      have hx := H3.out.gr (Gr.refl wr)
      replace c30 := hx.c0
      replace c31 := hx.c1
      replace f30 := hx.f0 0
      replace f31 := hx.f0 1
      clear hx
      have e0 := (H2.out.set (Tn.accB (fun i => Tn.andF (Tn.bitT av am i) (Tn.bitT bv bm i) == 1) 64) (Tn.accB (fun i => Tn.andF (Tn.bitT av am i) (Tn.bitT bv bm i) == 2) 64)).c0
      have e1 := (H2.out.set (Tn.accB (fun i => Tn.andF (Tn.bitT av am i) (Tn.bitT bv bm i) == 1) 64) (Tn.accB (fun i => Tn.andF (Tn.bitT av am i) (Tn.bitT bv bm i) == 2) 64)).c1
      go_wp2
      refine bodyPost_ret (by simp [results, Try.results21, go_sem, e0, e1]; try rfl) rfl ?_
      exact ⟨rfl, (HG.out.set (by omega) _).set (by omega) _⟩
set_option maxHeartbeats 4000000 in
theorem bits_or (av am bv bm : BitVec 64) (w : World) : Calls Try.prog 21 #[.agg #[.int .u64 (iv av), .int .u64 (iv am)], .agg #[.int .u64 (iv bv), .int .u64 (iv bm)], .int .i64 2] w fun e w' => e = .returned (.agg #[.int .u64 (iv (Tn.mkV fun i => Tn.orF (Tn.bitT av am i) (Tn.bitT bv bm i))), .int .u64 (iv (Tn.mkM fun i => Tn.orF (Tn.bitT av am i) (Tn.bitT bv bm i)))]) ∧ Gr w w' := by
  unfold Tn.mkV Tn.mkM
  go_enter Try.func21, Try.ntmps21
  go_wp2_with fail
  go_loopw [8] (fun i wr => ∃ k : Nat, k ≤ 64 ∧ i = .int .i64 k ∧ At wr w.heap.size av am ∧ At wr (w.heap.size + 1) bv bm ∧ At wr (w.heap.size + 1 + 1) 0#64 0#64 ∧ At wr (w.heap.size + 1 + 1 + 1) (Tn.accB (fun i => Tn.orF (Tn.bitT av am i) (Tn.bitT bv bm i) == 1) k) (Tn.accB (fun i => Tn.orF (Tn.bitT av am i) (Tn.bitT bv bm i) == 2) k) ∧ Gr w wr) (fun i _ => 64 - (intOf i).toNat)
  case atStart => exact ⟨0, by omega, rfl, ((((At.newb _ (by simp) av am).alloc _).alloc _).alloc _), (((At.newb _ (by simp) bv bm).alloc _).alloc _), ((At.newz _ (by simp)).alloc _), (At.newz _ (by simp)), by go_grown, by go_grown⟩
  case round =>
    obtain ⟨k, hk, rfl, h0, h1, h2, h3, hg⟩ := hrel
    have H0 : Hid (At wr w.heap.size av am) := h0
    have H1 : Hid (At wr (w.heap.size + 1) bv bm) := h1
    have H2 : Hid (At wr (w.heap.size + 1 + 1) 0#64 0#64) := h2
    have H3 : Hid (At wr (w.heap.size + 1 + 1 + 1) (Tn.accB (fun i => Tn.orF (Tn.bitT av am i) (Tn.bitT bv bm i) == 1) k) (Tn.accB (fun i => Tn.orF (Tn.bitT av am i) (Tn.bitT bv bm i) == 2) k)) := h3
    have HG : Hid (Gr w wr) := hg
    clear h0 h1 h2 h3 hg
    by_cases hlt : k < 64
    · have p00 : ∀ p : GrBy wr, p.to.cell? ⟨w.heap.size, 0, none⟩ = _ := fun p => (H0.out.gr p.gr).c0
      have p01 : ∀ p : GrBy wr, p.to.cell? ⟨w.heap.size, 1, none⟩ = _ := fun p => (H0.out.gr p.gr).c1
      have p10 : ∀ p : GrBy wr, p.to.cell? ⟨w.heap.size + 1, 0, none⟩ = _ := fun p => (H1.out.gr p.gr).c0
      have p11 : ∀ p : GrBy wr, p.to.cell? ⟨w.heap.size + 1, 1, none⟩ = _ := fun p => (H1.out.gr p.gr).c1
      rcases Tn.bit_cases av am k with ea | ea | ea
      · rcases Tn.bit_cases bv bm k with eb | eb | eb
        · have HE : Hid (Tn.orF (Tn.bitT av am k) (Tn.bitT bv bm k) = 0) := by rw [ea, eb]; rfl
          go_wp2_with fail
          have hne : Nonempty (GrBy wr) := ⟨⟨wr, Gr.refl wr⟩⟩
          refine wp_region_gr (by kernel_rfl) (by kernel_rfl) ?_
          repeat (first
            | go_big_quiet_skip
            | (go_big_quiet_want; go_big_quiet_op; first
              | go_big_quiet_on
              | (apply Exists.intro
                 refine ⟨fun p => ?_, ?_⟩
                 · first
                     | (go_at_call 43; exact calls_gr (bit_gr _ _ hlt _))
                 go_big_quiet_on)))
          refine wpQuiet_nil ?_
          intro _ hw'
          obtain ⟨p, rfl⟩ := hw'
          have hx := H3.out.gr p.gr
          replace c30 := hx.c0
          replace c31 := hx.c1
          replace f30 := hx.f0 0
          replace f31 := hx.f0 1
          clear hx
          go_wp2_with (first
            | (go_at_call 44; refine (put_gr0 _ _ hlt _).mono ?_; rintro e w' ⟨rfl, hh⟩; have hx := H3.out.gr (p.gr.trans hh); replace c30 := hx.c0; replace c31 := hx.c1; replace f30 := hx.f0 0; replace f31 := hx.f0 1; clear hx))
          go_roundw
          case rel =>
            have hacc := acc_put (fun i => Tn.orF (Tn.bitT av am i) (Tn.bitT bv bm i)) k 0 HE.out
            exact ⟨k + 1, by omega, by go_num, (((H0.out.gr (p.gr.trans hh)).other (by omega) _).other (by omega) _), (((H1.out.gr (p.gr.trans hh)).other (by omega) _).other (by omega) _), (((H2.out.gr (p.gr.trans hh)).other (by omega) _).other (by omega) _), (by rw [hacc.1, hacc.2]; exact (H3.out.gr (p.gr.trans hh)).set _ _), ((HG.out.trans (p.gr.trans hh)).set (by omega) _).set (by omega) _⟩
          case measure => simp [intOf]; omega
        · have HE : Hid (Tn.orF (Tn.bitT av am k) (Tn.bitT bv bm k) = 1) := by rw [ea, eb]; rfl
          go_wp2_with fail
          have hne : Nonempty (GrBy wr) := ⟨⟨wr, Gr.refl wr⟩⟩
          refine wp_region_gr (by kernel_rfl) (by kernel_rfl) ?_
          repeat (first
            | go_big_quiet_skip
            | (go_big_quiet_want; go_big_quiet_op; first
              | go_big_quiet_on
              | (apply Exists.intro
                 refine ⟨fun p => ?_, ?_⟩
                 · first
                     | (go_at_call 43; exact calls_gr (bit_gr _ _ hlt _))
                 go_big_quiet_on)))
          refine wpQuiet_nil ?_
          intro _ hw'
          obtain ⟨p, rfl⟩ := hw'
          have hx := H3.out.gr p.gr
          replace c30 := hx.c0
          replace c31 := hx.c1
          replace f30 := hx.f0 0
          replace f31 := hx.f0 1
          clear hx
          go_wp2_with (first
            | (go_at_call 44; refine (put_gr1 _ _ hlt _).mono ?_; rintro e w' ⟨rfl, hh⟩; have hx := H3.out.gr (p.gr.trans hh); replace c30 := hx.c0; replace c31 := hx.c1; replace f30 := hx.f0 0; replace f31 := hx.f0 1; clear hx))
          go_roundw
          case rel =>
            have hacc := acc_put (fun i => Tn.orF (Tn.bitT av am i) (Tn.bitT bv bm i)) k 1 HE.out
            exact ⟨k + 1, by omega, by go_num, (((H0.out.gr (p.gr.trans hh)).other (by omega) _).other (by omega) _), (((H1.out.gr (p.gr.trans hh)).other (by omega) _).other (by omega) _), (((H2.out.gr (p.gr.trans hh)).other (by omega) _).other (by omega) _), (by rw [hacc.1, hacc.2]; exact (H3.out.gr (p.gr.trans hh)).set _ _), ((HG.out.trans (p.gr.trans hh)).set (by omega) _).set (by omega) _⟩
          case measure => simp [intOf]; omega
        · have HE : Hid (Tn.orF (Tn.bitT av am k) (Tn.bitT bv bm k) = 2) := by rw [ea, eb]; rfl
          go_wp2_with fail
          have hne : Nonempty (GrBy wr) := ⟨⟨wr, Gr.refl wr⟩⟩
          refine wp_region_gr (by kernel_rfl) (by kernel_rfl) ?_
          repeat (first
            | go_big_quiet_skip
            | (go_big_quiet_want; go_big_quiet_op; first
              | go_big_quiet_on
              | (apply Exists.intro
                 refine ⟨fun p => ?_, ?_⟩
                 · first
                     | (go_at_call 43; exact calls_gr (bit_gr _ _ hlt _))
                 go_big_quiet_on)))
          refine wpQuiet_nil ?_
          intro _ hw'
          obtain ⟨p, rfl⟩ := hw'
          have hx := H3.out.gr p.gr
          replace c30 := hx.c0
          replace c31 := hx.c1
          replace f30 := hx.f0 0
          replace f31 := hx.f0 1
          clear hx
          go_wp2_with (first
            | (go_at_call 44; refine (put_gr2 _ _ hlt _).mono ?_; rintro e w' ⟨rfl, hh⟩; have hx := H3.out.gr (p.gr.trans hh); replace c30 := hx.c0; replace c31 := hx.c1; replace f30 := hx.f0 0; replace f31 := hx.f0 1; clear hx))
          go_roundw
          case rel =>
            have hacc := acc_put (fun i => Tn.orF (Tn.bitT av am i) (Tn.bitT bv bm i)) k 2 HE.out
            exact ⟨k + 1, by omega, by go_num, (((H0.out.gr (p.gr.trans hh)).other (by omega) _).other (by omega) _), (((H1.out.gr (p.gr.trans hh)).other (by omega) _).other (by omega) _), (((H2.out.gr (p.gr.trans hh)).other (by omega) _).other (by omega) _), (by rw [hacc.1, hacc.2]; exact (H3.out.gr (p.gr.trans hh)).set _ _), ((HG.out.trans (p.gr.trans hh)).set (by omega) _).set (by omega) _⟩
          case measure => simp [intOf]; omega
      · rcases Tn.bit_cases bv bm k with eb | eb | eb
        · have HE : Hid (Tn.orF (Tn.bitT av am k) (Tn.bitT bv bm k) = 1) := by rw [ea, eb]; rfl
          go_wp2_with fail
          have hne : Nonempty (GrBy wr) := ⟨⟨wr, Gr.refl wr⟩⟩
          refine wp_region_gr (by kernel_rfl) (by kernel_rfl) ?_
          repeat (first
            | go_big_quiet_skip
            | (go_big_quiet_want; go_big_quiet_op; first
              | go_big_quiet_on
              | (apply Exists.intro
                 refine ⟨fun p => ?_, ?_⟩
                 · first
                     | (go_at_call 43; exact calls_gr (bit_gr _ _ hlt _))
                 go_big_quiet_on)))
          refine wpQuiet_nil ?_
          intro _ hw'
          obtain ⟨p, rfl⟩ := hw'
          have hx := H3.out.gr p.gr
          replace c30 := hx.c0
          replace c31 := hx.c1
          replace f30 := hx.f0 0
          replace f31 := hx.f0 1
          clear hx
          go_wp2_with (first
            | (go_at_call 44; refine (put_gr1 _ _ hlt _).mono ?_; rintro e w' ⟨rfl, hh⟩; have hx := H3.out.gr (p.gr.trans hh); replace c30 := hx.c0; replace c31 := hx.c1; replace f30 := hx.f0 0; replace f31 := hx.f0 1; clear hx))
          go_roundw
          case rel =>
            have hacc := acc_put (fun i => Tn.orF (Tn.bitT av am i) (Tn.bitT bv bm i)) k 1 HE.out
            exact ⟨k + 1, by omega, by go_num, (((H0.out.gr (p.gr.trans hh)).other (by omega) _).other (by omega) _), (((H1.out.gr (p.gr.trans hh)).other (by omega) _).other (by omega) _), (((H2.out.gr (p.gr.trans hh)).other (by omega) _).other (by omega) _), (by rw [hacc.1, hacc.2]; exact (H3.out.gr (p.gr.trans hh)).set _ _), ((HG.out.trans (p.gr.trans hh)).set (by omega) _).set (by omega) _⟩
          case measure => simp [intOf]; omega
        · have HE : Hid (Tn.orF (Tn.bitT av am k) (Tn.bitT bv bm k) = 1) := by rw [ea, eb]; rfl
          go_wp2_with fail
          have hne : Nonempty (GrBy wr) := ⟨⟨wr, Gr.refl wr⟩⟩
          refine wp_region_gr (by kernel_rfl) (by kernel_rfl) ?_
          repeat (first
            | go_big_quiet_skip
            | (go_big_quiet_want; go_big_quiet_op; first
              | go_big_quiet_on
              | (apply Exists.intro
                 refine ⟨fun p => ?_, ?_⟩
                 · first
                     | (go_at_call 43; exact calls_gr (bit_gr _ _ hlt _))
                 go_big_quiet_on)))
          refine wpQuiet_nil ?_
          intro _ hw'
          obtain ⟨p, rfl⟩ := hw'
          have hx := H3.out.gr p.gr
          replace c30 := hx.c0
          replace c31 := hx.c1
          replace f30 := hx.f0 0
          replace f31 := hx.f0 1
          clear hx
          go_wp2_with (first
            | (go_at_call 44; refine (put_gr1 _ _ hlt _).mono ?_; rintro e w' ⟨rfl, hh⟩; have hx := H3.out.gr (p.gr.trans hh); replace c30 := hx.c0; replace c31 := hx.c1; replace f30 := hx.f0 0; replace f31 := hx.f0 1; clear hx))
          go_roundw
          case rel =>
            have hacc := acc_put (fun i => Tn.orF (Tn.bitT av am i) (Tn.bitT bv bm i)) k 1 HE.out
            exact ⟨k + 1, by omega, by go_num, (((H0.out.gr (p.gr.trans hh)).other (by omega) _).other (by omega) _), (((H1.out.gr (p.gr.trans hh)).other (by omega) _).other (by omega) _), (((H2.out.gr (p.gr.trans hh)).other (by omega) _).other (by omega) _), (by rw [hacc.1, hacc.2]; exact (H3.out.gr (p.gr.trans hh)).set _ _), ((HG.out.trans (p.gr.trans hh)).set (by omega) _).set (by omega) _⟩
          case measure => simp [intOf]; omega
        · have HE : Hid (Tn.orF (Tn.bitT av am k) (Tn.bitT bv bm k) = 1) := by rw [ea, eb]; rfl
          go_wp2_with fail
          have hne : Nonempty (GrBy wr) := ⟨⟨wr, Gr.refl wr⟩⟩
          refine wp_region_gr (by kernel_rfl) (by kernel_rfl) ?_
          repeat (first
            | go_big_quiet_skip
            | (go_big_quiet_want; go_big_quiet_op; first
              | go_big_quiet_on
              | (apply Exists.intro
                 refine ⟨fun p => ?_, ?_⟩
                 · first
                     | (go_at_call 43; exact calls_gr (bit_gr _ _ hlt _))
                 go_big_quiet_on)))
          refine wpQuiet_nil ?_
          intro _ hw'
          obtain ⟨p, rfl⟩ := hw'
          have hx := H3.out.gr p.gr
          replace c30 := hx.c0
          replace c31 := hx.c1
          replace f30 := hx.f0 0
          replace f31 := hx.f0 1
          clear hx
          go_wp2_with (first
            | (go_at_call 44; refine (put_gr1 _ _ hlt _).mono ?_; rintro e w' ⟨rfl, hh⟩; have hx := H3.out.gr (p.gr.trans hh); replace c30 := hx.c0; replace c31 := hx.c1; replace f30 := hx.f0 0; replace f31 := hx.f0 1; clear hx))
          go_roundw
          case rel =>
            have hacc := acc_put (fun i => Tn.orF (Tn.bitT av am i) (Tn.bitT bv bm i)) k 1 HE.out
            exact ⟨k + 1, by omega, by go_num, (((H0.out.gr (p.gr.trans hh)).other (by omega) _).other (by omega) _), (((H1.out.gr (p.gr.trans hh)).other (by omega) _).other (by omega) _), (((H2.out.gr (p.gr.trans hh)).other (by omega) _).other (by omega) _), (by rw [hacc.1, hacc.2]; exact (H3.out.gr (p.gr.trans hh)).set _ _), ((HG.out.trans (p.gr.trans hh)).set (by omega) _).set (by omega) _⟩
          case measure => simp [intOf]; omega
      · rcases Tn.bit_cases bv bm k with eb | eb | eb
        · have HE : Hid (Tn.orF (Tn.bitT av am k) (Tn.bitT bv bm k) = 2) := by rw [ea, eb]; rfl
          go_wp2_with fail
          have hne : Nonempty (GrBy wr) := ⟨⟨wr, Gr.refl wr⟩⟩
          refine wp_region_gr (by kernel_rfl) (by kernel_rfl) ?_
          repeat (first
            | go_big_quiet_skip
            | (go_big_quiet_want; go_big_quiet_op; first
              | go_big_quiet_on
              | (apply Exists.intro
                 refine ⟨fun p => ?_, ?_⟩
                 · first
                     | (go_at_call 43; exact calls_gr (bit_gr _ _ hlt _))
                 go_big_quiet_on)))
          refine wpQuiet_nil ?_
          intro _ hw'
          obtain ⟨p, rfl⟩ := hw'
          have hx := H3.out.gr p.gr
          replace c30 := hx.c0
          replace c31 := hx.c1
          replace f30 := hx.f0 0
          replace f31 := hx.f0 1
          clear hx
          go_wp2_with (first
            | (go_at_call 44; refine (put_gr2 _ _ hlt _).mono ?_; rintro e w' ⟨rfl, hh⟩; have hx := H3.out.gr (p.gr.trans hh); replace c30 := hx.c0; replace c31 := hx.c1; replace f30 := hx.f0 0; replace f31 := hx.f0 1; clear hx))
          go_roundw
          case rel =>
            have hacc := acc_put (fun i => Tn.orF (Tn.bitT av am i) (Tn.bitT bv bm i)) k 2 HE.out
            exact ⟨k + 1, by omega, by go_num, (((H0.out.gr (p.gr.trans hh)).other (by omega) _).other (by omega) _), (((H1.out.gr (p.gr.trans hh)).other (by omega) _).other (by omega) _), (((H2.out.gr (p.gr.trans hh)).other (by omega) _).other (by omega) _), (by rw [hacc.1, hacc.2]; exact (H3.out.gr (p.gr.trans hh)).set _ _), ((HG.out.trans (p.gr.trans hh)).set (by omega) _).set (by omega) _⟩
          case measure => simp [intOf]; omega
        · have HE : Hid (Tn.orF (Tn.bitT av am k) (Tn.bitT bv bm k) = 1) := by rw [ea, eb]; rfl
          go_wp2_with fail
          have hne : Nonempty (GrBy wr) := ⟨⟨wr, Gr.refl wr⟩⟩
          refine wp_region_gr (by kernel_rfl) (by kernel_rfl) ?_
          repeat (first
            | go_big_quiet_skip
            | (go_big_quiet_want; go_big_quiet_op; first
              | go_big_quiet_on
              | (apply Exists.intro
                 refine ⟨fun p => ?_, ?_⟩
                 · first
                     | (go_at_call 43; exact calls_gr (bit_gr _ _ hlt _))
                 go_big_quiet_on)))
          refine wpQuiet_nil ?_
          intro _ hw'
          obtain ⟨p, rfl⟩ := hw'
          have hx := H3.out.gr p.gr
          replace c30 := hx.c0
          replace c31 := hx.c1
          replace f30 := hx.f0 0
          replace f31 := hx.f0 1
          clear hx
          go_wp2_with (first
            | (go_at_call 44; refine (put_gr1 _ _ hlt _).mono ?_; rintro e w' ⟨rfl, hh⟩; have hx := H3.out.gr (p.gr.trans hh); replace c30 := hx.c0; replace c31 := hx.c1; replace f30 := hx.f0 0; replace f31 := hx.f0 1; clear hx))
          go_roundw
          case rel =>
            have hacc := acc_put (fun i => Tn.orF (Tn.bitT av am i) (Tn.bitT bv bm i)) k 1 HE.out
            exact ⟨k + 1, by omega, by go_num, (((H0.out.gr (p.gr.trans hh)).other (by omega) _).other (by omega) _), (((H1.out.gr (p.gr.trans hh)).other (by omega) _).other (by omega) _), (((H2.out.gr (p.gr.trans hh)).other (by omega) _).other (by omega) _), (by rw [hacc.1, hacc.2]; exact (H3.out.gr (p.gr.trans hh)).set _ _), ((HG.out.trans (p.gr.trans hh)).set (by omega) _).set (by omega) _⟩
          case measure => simp [intOf]; omega
        · have HE : Hid (Tn.orF (Tn.bitT av am k) (Tn.bitT bv bm k) = 2) := by rw [ea, eb]; rfl
          go_wp2_with fail
          have hne : Nonempty (GrBy wr) := ⟨⟨wr, Gr.refl wr⟩⟩
          refine wp_region_gr (by kernel_rfl) (by kernel_rfl) ?_
          repeat (first
            | go_big_quiet_skip
            | (go_big_quiet_want; go_big_quiet_op; first
              | go_big_quiet_on
              | (apply Exists.intro
                 refine ⟨fun p => ?_, ?_⟩
                 · first
                     | (go_at_call 43; exact calls_gr (bit_gr _ _ hlt _))
                 go_big_quiet_on)))
          refine wpQuiet_nil ?_
          intro _ hw'
          obtain ⟨p, rfl⟩ := hw'
          have hx := H3.out.gr p.gr
          replace c30 := hx.c0
          replace c31 := hx.c1
          replace f30 := hx.f0 0
          replace f31 := hx.f0 1
          clear hx
          go_wp2_with (first
            | (go_at_call 44; refine (put_gr2 _ _ hlt _).mono ?_; rintro e w' ⟨rfl, hh⟩; have hx := H3.out.gr (p.gr.trans hh); replace c30 := hx.c0; replace c31 := hx.c1; replace f30 := hx.f0 0; replace f31 := hx.f0 1; clear hx))
          go_roundw
          case rel =>
            have hacc := acc_put (fun i => Tn.orF (Tn.bitT av am i) (Tn.bitT bv bm i)) k 2 HE.out
            exact ⟨k + 1, by omega, by go_num, (((H0.out.gr (p.gr.trans hh)).other (by omega) _).other (by omega) _), (((H1.out.gr (p.gr.trans hh)).other (by omega) _).other (by omega) _), (((H2.out.gr (p.gr.trans hh)).other (by omega) _).other (by omega) _), (by rw [hacc.1, hacc.2]; exact (H3.out.gr (p.gr.trans hh)).set _ _), ((HG.out.trans (p.gr.trans hh)).set (by omega) _).set (by omega) _⟩
          case measure => simp [intOf]; omega
    · obtain rfl : k = 64 := by omega
      have hx := H2.out.gr (Gr.refl wr)
      replace c20 := hx.c0
      replace c21 := hx.c1
      replace f20 := hx.f0 0
      replace f21 := hx.f0 1
      clear hx
      have hx := H3.out.gr (Gr.refl wr)
      replace c30 := hx.c0
      replace c31 := hx.c1
      replace f30 := hx.f0 0
      replace f31 := hx.f0 1
      clear hx
      have e0 := (H2.out.set (Tn.accB (fun i => Tn.orF (Tn.bitT av am i) (Tn.bitT bv bm i) == 1) 64) (Tn.accB (fun i => Tn.orF (Tn.bitT av am i) (Tn.bitT bv bm i) == 2) 64)).c0
      have e1 := (H2.out.set (Tn.accB (fun i => Tn.orF (Tn.bitT av am i) (Tn.bitT bv bm i) == 1) 64) (Tn.accB (fun i => Tn.orF (Tn.bitT av am i) (Tn.bitT bv bm i) == 2) 64)).c1
      go_wp2
      refine bodyPost_ret (by simp [results, Try.results21, go_sem, e0, e1]; try rfl) rfl ?_
      exact ⟨rfl, (HG.out.set (by omega) _).set (by omega) _⟩
set_option maxHeartbeats 4000000 in
theorem bits_xor (av am bv bm : BitVec 64) (w : World) : Calls Try.prog 21 #[.agg #[.int .u64 (iv av), .int .u64 (iv am)], .agg #[.int .u64 (iv bv), .int .u64 (iv bm)], .int .i64 3] w fun e w' => e = .returned (.agg #[.int .u64 (iv (Tn.mkV fun i => Tn.xorF (Tn.bitT av am i) (Tn.bitT bv bm i))), .int .u64 (iv (Tn.mkM fun i => Tn.xorF (Tn.bitT av am i) (Tn.bitT bv bm i)))]) ∧ Gr w w' := by
  unfold Tn.mkV Tn.mkM
  go_enter Try.func21, Try.ntmps21
  go_wp2_with fail
  go_loopw [8] (fun i wr => ∃ k : Nat, k ≤ 64 ∧ i = .int .i64 k ∧ At wr w.heap.size av am ∧ At wr (w.heap.size + 1) bv bm ∧ At wr (w.heap.size + 1 + 1) 0#64 0#64 ∧ At wr (w.heap.size + 1 + 1 + 1) (Tn.accB (fun i => Tn.xorF (Tn.bitT av am i) (Tn.bitT bv bm i) == 1) k) (Tn.accB (fun i => Tn.xorF (Tn.bitT av am i) (Tn.bitT bv bm i) == 2) k) ∧ Gr w wr) (fun i _ => 64 - (intOf i).toNat)
  case atStart => exact ⟨0, by omega, rfl, ((((At.newb _ (by simp) av am).alloc _).alloc _).alloc _), (((At.newb _ (by simp) bv bm).alloc _).alloc _), ((At.newz _ (by simp)).alloc _), (At.newz _ (by simp)), by go_grown, by go_grown⟩
  case round =>
    obtain ⟨k, hk, rfl, h0, h1, h2, h3, hg⟩ := hrel
    have H0 : Hid (At wr w.heap.size av am) := h0
    have H1 : Hid (At wr (w.heap.size + 1) bv bm) := h1
    have H2 : Hid (At wr (w.heap.size + 1 + 1) 0#64 0#64) := h2
    have H3 : Hid (At wr (w.heap.size + 1 + 1 + 1) (Tn.accB (fun i => Tn.xorF (Tn.bitT av am i) (Tn.bitT bv bm i) == 1) k) (Tn.accB (fun i => Tn.xorF (Tn.bitT av am i) (Tn.bitT bv bm i) == 2) k)) := h3
    have HG : Hid (Gr w wr) := hg
    clear h0 h1 h2 h3 hg
    by_cases hlt : k < 64
    · have p00 : ∀ p : GrBy wr, p.to.cell? ⟨w.heap.size, 0, none⟩ = _ := fun p => (H0.out.gr p.gr).c0
      have p01 : ∀ p : GrBy wr, p.to.cell? ⟨w.heap.size, 1, none⟩ = _ := fun p => (H0.out.gr p.gr).c1
      have p10 : ∀ p : GrBy wr, p.to.cell? ⟨w.heap.size + 1, 0, none⟩ = _ := fun p => (H1.out.gr p.gr).c0
      have p11 : ∀ p : GrBy wr, p.to.cell? ⟨w.heap.size + 1, 1, none⟩ = _ := fun p => (H1.out.gr p.gr).c1
      rcases Tn.bit_cases av am k with ea | ea | ea
      · rcases Tn.bit_cases bv bm k with eb | eb | eb
        · have HE : Hid (Tn.xorF (Tn.bitT av am k) (Tn.bitT bv bm k) = 0) := by rw [ea, eb]; rfl
          go_wp2_with fail
          have hne : Nonempty (GrBy wr) := ⟨⟨wr, Gr.refl wr⟩⟩
          refine wp_region_gr (by kernel_rfl) (by kernel_rfl) ?_
          repeat (first
            | go_big_quiet_skip
            | (go_big_quiet_want; go_big_quiet_op; first
              | go_big_quiet_on
              | (apply Exists.intro
                 refine ⟨fun p => ?_, ?_⟩
                 · first
                     | (go_at_call 43; exact calls_gr (bit_gr _ _ hlt _))
                 go_big_quiet_on)))
          refine wpQuiet_nil ?_
          intro _ hw'
          obtain ⟨p, rfl⟩ := hw'
          have hx := H3.out.gr p.gr
          replace c30 := hx.c0
          replace c31 := hx.c1
          replace f30 := hx.f0 0
          replace f31 := hx.f0 1
          clear hx
          go_wp2_with (first
            | (go_at_call 44; refine (put_gr0 _ _ hlt _).mono ?_; rintro e w' ⟨rfl, hh⟩; have hx := H3.out.gr (p.gr.trans hh); replace c30 := hx.c0; replace c31 := hx.c1; replace f30 := hx.f0 0; replace f31 := hx.f0 1; clear hx))
          go_roundw
          case rel =>
            have hacc := acc_put (fun i => Tn.xorF (Tn.bitT av am i) (Tn.bitT bv bm i)) k 0 HE.out
            exact ⟨k + 1, by omega, by go_num, (((H0.out.gr (p.gr.trans hh)).other (by omega) _).other (by omega) _), (((H1.out.gr (p.gr.trans hh)).other (by omega) _).other (by omega) _), (((H2.out.gr (p.gr.trans hh)).other (by omega) _).other (by omega) _), (by rw [hacc.1, hacc.2]; exact (H3.out.gr (p.gr.trans hh)).set _ _), ((HG.out.trans (p.gr.trans hh)).set (by omega) _).set (by omega) _⟩
          case measure => simp [intOf]; omega
        · have HE : Hid (Tn.xorF (Tn.bitT av am k) (Tn.bitT bv bm k) = 1) := by rw [ea, eb]; rfl
          go_wp2_with fail
          have hne : Nonempty (GrBy wr) := ⟨⟨wr, Gr.refl wr⟩⟩
          refine wp_region_gr (by kernel_rfl) (by kernel_rfl) ?_
          repeat (first
            | go_big_quiet_skip
            | (go_big_quiet_want; go_big_quiet_op; first
              | go_big_quiet_on
              | (apply Exists.intro
                 refine ⟨fun p => ?_, ?_⟩
                 · first
                     | (go_at_call 43; exact calls_gr (bit_gr _ _ hlt _))
                 go_big_quiet_on)))
          refine wpQuiet_nil ?_
          intro _ hw'
          obtain ⟨p, rfl⟩ := hw'
          have hx := H3.out.gr p.gr
          replace c30 := hx.c0
          replace c31 := hx.c1
          replace f30 := hx.f0 0
          replace f31 := hx.f0 1
          clear hx
          go_wp2_with (first
            | (go_at_call 44; refine (put_gr1 _ _ hlt _).mono ?_; rintro e w' ⟨rfl, hh⟩; have hx := H3.out.gr (p.gr.trans hh); replace c30 := hx.c0; replace c31 := hx.c1; replace f30 := hx.f0 0; replace f31 := hx.f0 1; clear hx))
          go_roundw
          case rel =>
            have hacc := acc_put (fun i => Tn.xorF (Tn.bitT av am i) (Tn.bitT bv bm i)) k 1 HE.out
            exact ⟨k + 1, by omega, by go_num, (((H0.out.gr (p.gr.trans hh)).other (by omega) _).other (by omega) _), (((H1.out.gr (p.gr.trans hh)).other (by omega) _).other (by omega) _), (((H2.out.gr (p.gr.trans hh)).other (by omega) _).other (by omega) _), (by rw [hacc.1, hacc.2]; exact (H3.out.gr (p.gr.trans hh)).set _ _), ((HG.out.trans (p.gr.trans hh)).set (by omega) _).set (by omega) _⟩
          case measure => simp [intOf]; omega
        · have HE : Hid (Tn.xorF (Tn.bitT av am k) (Tn.bitT bv bm k) = 2) := by rw [ea, eb]; rfl
          go_wp2_with fail
          have hne : Nonempty (GrBy wr) := ⟨⟨wr, Gr.refl wr⟩⟩
          refine wp_region_gr (by kernel_rfl) (by kernel_rfl) ?_
          repeat (first
            | go_big_quiet_skip
            | (go_big_quiet_want; go_big_quiet_op; first
              | go_big_quiet_on
              | (apply Exists.intro
                 refine ⟨fun p => ?_, ?_⟩
                 · first
                     | (go_at_call 43; exact calls_gr (bit_gr _ _ hlt _))
                 go_big_quiet_on)))
          refine wpQuiet_nil ?_
          intro _ hw'
          obtain ⟨p, rfl⟩ := hw'
          have hx := H3.out.gr p.gr
          replace c30 := hx.c0
          replace c31 := hx.c1
          replace f30 := hx.f0 0
          replace f31 := hx.f0 1
          clear hx
          go_wp2_with (first
            | (go_at_call 44; refine (put_gr2 _ _ hlt _).mono ?_; rintro e w' ⟨rfl, hh⟩; have hx := H3.out.gr (p.gr.trans hh); replace c30 := hx.c0; replace c31 := hx.c1; replace f30 := hx.f0 0; replace f31 := hx.f0 1; clear hx))
          go_roundw
          case rel =>
            have hacc := acc_put (fun i => Tn.xorF (Tn.bitT av am i) (Tn.bitT bv bm i)) k 2 HE.out
            exact ⟨k + 1, by omega, by go_num, (((H0.out.gr (p.gr.trans hh)).other (by omega) _).other (by omega) _), (((H1.out.gr (p.gr.trans hh)).other (by omega) _).other (by omega) _), (((H2.out.gr (p.gr.trans hh)).other (by omega) _).other (by omega) _), (by rw [hacc.1, hacc.2]; exact (H3.out.gr (p.gr.trans hh)).set _ _), ((HG.out.trans (p.gr.trans hh)).set (by omega) _).set (by omega) _⟩
          case measure => simp [intOf]; omega
      · rcases Tn.bit_cases bv bm k with eb | eb | eb
        · have HE : Hid (Tn.xorF (Tn.bitT av am k) (Tn.bitT bv bm k) = 1) := by rw [ea, eb]; rfl
          go_wp2_with fail
          have hne : Nonempty (GrBy wr) := ⟨⟨wr, Gr.refl wr⟩⟩
          refine wp_region_gr (by kernel_rfl) (by kernel_rfl) ?_
          repeat (first
            | go_big_quiet_skip
            | (go_big_quiet_want; go_big_quiet_op; first
              | go_big_quiet_on
              | (apply Exists.intro
                 refine ⟨fun p => ?_, ?_⟩
                 · first
                     | (go_at_call 43; exact calls_gr (bit_gr _ _ hlt _))
                 go_big_quiet_on)))
          refine wpQuiet_nil ?_
          intro _ hw'
          obtain ⟨p, rfl⟩ := hw'
          have hx := H3.out.gr p.gr
          replace c30 := hx.c0
          replace c31 := hx.c1
          replace f30 := hx.f0 0
          replace f31 := hx.f0 1
          clear hx
          go_wp2_with (first
            | (go_at_call 44; refine (put_gr1 _ _ hlt _).mono ?_; rintro e w' ⟨rfl, hh⟩; have hx := H3.out.gr (p.gr.trans hh); replace c30 := hx.c0; replace c31 := hx.c1; replace f30 := hx.f0 0; replace f31 := hx.f0 1; clear hx))
          go_roundw
          case rel =>
            have hacc := acc_put (fun i => Tn.xorF (Tn.bitT av am i) (Tn.bitT bv bm i)) k 1 HE.out
            exact ⟨k + 1, by omega, by go_num, (((H0.out.gr (p.gr.trans hh)).other (by omega) _).other (by omega) _), (((H1.out.gr (p.gr.trans hh)).other (by omega) _).other (by omega) _), (((H2.out.gr (p.gr.trans hh)).other (by omega) _).other (by omega) _), (by rw [hacc.1, hacc.2]; exact (H3.out.gr (p.gr.trans hh)).set _ _), ((HG.out.trans (p.gr.trans hh)).set (by omega) _).set (by omega) _⟩
          case measure => simp [intOf]; omega
        · have HE : Hid (Tn.xorF (Tn.bitT av am k) (Tn.bitT bv bm k) = 0) := by rw [ea, eb]; rfl
          go_wp2_with fail
          have hne : Nonempty (GrBy wr) := ⟨⟨wr, Gr.refl wr⟩⟩
          refine wp_region_gr (by kernel_rfl) (by kernel_rfl) ?_
          repeat (first
            | go_big_quiet_skip
            | (go_big_quiet_want; go_big_quiet_op; first
              | go_big_quiet_on
              | (apply Exists.intro
                 refine ⟨fun p => ?_, ?_⟩
                 · first
                     | (go_at_call 43; exact calls_gr (bit_gr _ _ hlt _))
                 go_big_quiet_on)))
          refine wpQuiet_nil ?_
          intro _ hw'
          obtain ⟨p, rfl⟩ := hw'
          have hx := H3.out.gr p.gr
          replace c30 := hx.c0
          replace c31 := hx.c1
          replace f30 := hx.f0 0
          replace f31 := hx.f0 1
          clear hx
          go_wp2_with (first
            | (go_at_call 44; refine (put_gr0 _ _ hlt _).mono ?_; rintro e w' ⟨rfl, hh⟩; have hx := H3.out.gr (p.gr.trans hh); replace c30 := hx.c0; replace c31 := hx.c1; replace f30 := hx.f0 0; replace f31 := hx.f0 1; clear hx))
          go_roundw
          case rel =>
            have hacc := acc_put (fun i => Tn.xorF (Tn.bitT av am i) (Tn.bitT bv bm i)) k 0 HE.out
            exact ⟨k + 1, by omega, by go_num, (((H0.out.gr (p.gr.trans hh)).other (by omega) _).other (by omega) _), (((H1.out.gr (p.gr.trans hh)).other (by omega) _).other (by omega) _), (((H2.out.gr (p.gr.trans hh)).other (by omega) _).other (by omega) _), (by rw [hacc.1, hacc.2]; exact (H3.out.gr (p.gr.trans hh)).set _ _), ((HG.out.trans (p.gr.trans hh)).set (by omega) _).set (by omega) _⟩
          case measure => simp [intOf]; omega
        · have HE : Hid (Tn.xorF (Tn.bitT av am k) (Tn.bitT bv bm k) = 2) := by rw [ea, eb]; rfl
          go_wp2_with fail
          have hne : Nonempty (GrBy wr) := ⟨⟨wr, Gr.refl wr⟩⟩
          refine wp_region_gr (by kernel_rfl) (by kernel_rfl) ?_
          repeat (first
            | go_big_quiet_skip
            | (go_big_quiet_want; go_big_quiet_op; first
              | go_big_quiet_on
              | (apply Exists.intro
                 refine ⟨fun p => ?_, ?_⟩
                 · first
                     | (go_at_call 43; exact calls_gr (bit_gr _ _ hlt _))
                 go_big_quiet_on)))
          refine wpQuiet_nil ?_
          intro _ hw'
          obtain ⟨p, rfl⟩ := hw'
          have hx := H3.out.gr p.gr
          replace c30 := hx.c0
          replace c31 := hx.c1
          replace f30 := hx.f0 0
          replace f31 := hx.f0 1
          clear hx
          go_wp2_with (first
            | (go_at_call 44; refine (put_gr2 _ _ hlt _).mono ?_; rintro e w' ⟨rfl, hh⟩; have hx := H3.out.gr (p.gr.trans hh); replace c30 := hx.c0; replace c31 := hx.c1; replace f30 := hx.f0 0; replace f31 := hx.f0 1; clear hx))
          go_roundw
          case rel =>
            have hacc := acc_put (fun i => Tn.xorF (Tn.bitT av am i) (Tn.bitT bv bm i)) k 2 HE.out
            exact ⟨k + 1, by omega, by go_num, (((H0.out.gr (p.gr.trans hh)).other (by omega) _).other (by omega) _), (((H1.out.gr (p.gr.trans hh)).other (by omega) _).other (by omega) _), (((H2.out.gr (p.gr.trans hh)).other (by omega) _).other (by omega) _), (by rw [hacc.1, hacc.2]; exact (H3.out.gr (p.gr.trans hh)).set _ _), ((HG.out.trans (p.gr.trans hh)).set (by omega) _).set (by omega) _⟩
          case measure => simp [intOf]; omega
      · rcases Tn.bit_cases bv bm k with eb | eb | eb
        · have HE : Hid (Tn.xorF (Tn.bitT av am k) (Tn.bitT bv bm k) = 2) := by rw [ea, eb]; rfl
          go_wp2_with fail
          have hne : Nonempty (GrBy wr) := ⟨⟨wr, Gr.refl wr⟩⟩
          refine wp_region_gr (by kernel_rfl) (by kernel_rfl) ?_
          repeat (first
            | go_big_quiet_skip
            | (go_big_quiet_want; go_big_quiet_op; first
              | go_big_quiet_on
              | (apply Exists.intro
                 refine ⟨fun p => ?_, ?_⟩
                 · first
                     | (go_at_call 43; exact calls_gr (bit_gr _ _ hlt _))
                 go_big_quiet_on)))
          refine wpQuiet_nil ?_
          intro _ hw'
          obtain ⟨p, rfl⟩ := hw'
          have hx := H3.out.gr p.gr
          replace c30 := hx.c0
          replace c31 := hx.c1
          replace f30 := hx.f0 0
          replace f31 := hx.f0 1
          clear hx
          go_wp2_with (first
            | (go_at_call 44; refine (put_gr2 _ _ hlt _).mono ?_; rintro e w' ⟨rfl, hh⟩; have hx := H3.out.gr (p.gr.trans hh); replace c30 := hx.c0; replace c31 := hx.c1; replace f30 := hx.f0 0; replace f31 := hx.f0 1; clear hx))
          go_roundw
          case rel =>
            have hacc := acc_put (fun i => Tn.xorF (Tn.bitT av am i) (Tn.bitT bv bm i)) k 2 HE.out
            exact ⟨k + 1, by omega, by go_num, (((H0.out.gr (p.gr.trans hh)).other (by omega) _).other (by omega) _), (((H1.out.gr (p.gr.trans hh)).other (by omega) _).other (by omega) _), (((H2.out.gr (p.gr.trans hh)).other (by omega) _).other (by omega) _), (by rw [hacc.1, hacc.2]; exact (H3.out.gr (p.gr.trans hh)).set _ _), ((HG.out.trans (p.gr.trans hh)).set (by omega) _).set (by omega) _⟩
          case measure => simp [intOf]; omega
        · have HE : Hid (Tn.xorF (Tn.bitT av am k) (Tn.bitT bv bm k) = 2) := by rw [ea, eb]; rfl
          go_wp2_with fail
          have hne : Nonempty (GrBy wr) := ⟨⟨wr, Gr.refl wr⟩⟩
          refine wp_region_gr (by kernel_rfl) (by kernel_rfl) ?_
          repeat (first
            | go_big_quiet_skip
            | (go_big_quiet_want; go_big_quiet_op; first
              | go_big_quiet_on
              | (apply Exists.intro
                 refine ⟨fun p => ?_, ?_⟩
                 · first
                     | (go_at_call 43; exact calls_gr (bit_gr _ _ hlt _))
                 go_big_quiet_on)))
          refine wpQuiet_nil ?_
          intro _ hw'
          obtain ⟨p, rfl⟩ := hw'
          have hx := H3.out.gr p.gr
          replace c30 := hx.c0
          replace c31 := hx.c1
          replace f30 := hx.f0 0
          replace f31 := hx.f0 1
          clear hx
          go_wp2_with (first
            | (go_at_call 44; refine (put_gr2 _ _ hlt _).mono ?_; rintro e w' ⟨rfl, hh⟩; have hx := H3.out.gr (p.gr.trans hh); replace c30 := hx.c0; replace c31 := hx.c1; replace f30 := hx.f0 0; replace f31 := hx.f0 1; clear hx))
          go_roundw
          case rel =>
            have hacc := acc_put (fun i => Tn.xorF (Tn.bitT av am i) (Tn.bitT bv bm i)) k 2 HE.out
            exact ⟨k + 1, by omega, by go_num, (((H0.out.gr (p.gr.trans hh)).other (by omega) _).other (by omega) _), (((H1.out.gr (p.gr.trans hh)).other (by omega) _).other (by omega) _), (((H2.out.gr (p.gr.trans hh)).other (by omega) _).other (by omega) _), (by rw [hacc.1, hacc.2]; exact (H3.out.gr (p.gr.trans hh)).set _ _), ((HG.out.trans (p.gr.trans hh)).set (by omega) _).set (by omega) _⟩
          case measure => simp [intOf]; omega
        · have HE : Hid (Tn.xorF (Tn.bitT av am k) (Tn.bitT bv bm k) = 2) := by rw [ea, eb]; rfl
          go_wp2_with fail
          have hne : Nonempty (GrBy wr) := ⟨⟨wr, Gr.refl wr⟩⟩
          refine wp_region_gr (by kernel_rfl) (by kernel_rfl) ?_
          repeat (first
            | go_big_quiet_skip
            | (go_big_quiet_want; go_big_quiet_op; first
              | go_big_quiet_on
              | (apply Exists.intro
                 refine ⟨fun p => ?_, ?_⟩
                 · first
                     | (go_at_call 43; exact calls_gr (bit_gr _ _ hlt _))
                 go_big_quiet_on)))
          refine wpQuiet_nil ?_
          intro _ hw'
          obtain ⟨p, rfl⟩ := hw'
          have hx := H3.out.gr p.gr
          replace c30 := hx.c0
          replace c31 := hx.c1
          replace f30 := hx.f0 0
          replace f31 := hx.f0 1
          clear hx
          go_wp2_with (first
            | (go_at_call 44; refine (put_gr2 _ _ hlt _).mono ?_; rintro e w' ⟨rfl, hh⟩; have hx := H3.out.gr (p.gr.trans hh); replace c30 := hx.c0; replace c31 := hx.c1; replace f30 := hx.f0 0; replace f31 := hx.f0 1; clear hx))
          go_roundw
          case rel =>
            have hacc := acc_put (fun i => Tn.xorF (Tn.bitT av am i) (Tn.bitT bv bm i)) k 2 HE.out
            exact ⟨k + 1, by omega, by go_num, (((H0.out.gr (p.gr.trans hh)).other (by omega) _).other (by omega) _), (((H1.out.gr (p.gr.trans hh)).other (by omega) _).other (by omega) _), (((H2.out.gr (p.gr.trans hh)).other (by omega) _).other (by omega) _), (by rw [hacc.1, hacc.2]; exact (H3.out.gr (p.gr.trans hh)).set _ _), ((HG.out.trans (p.gr.trans hh)).set (by omega) _).set (by omega) _⟩
          case measure => simp [intOf]; omega
    · obtain rfl : k = 64 := by omega
      have hx := H2.out.gr (Gr.refl wr)
      replace c20 := hx.c0
      replace c21 := hx.c1
      replace f20 := hx.f0 0
      replace f21 := hx.f0 1
      clear hx
      have hx := H3.out.gr (Gr.refl wr)
      replace c30 := hx.c0
      replace c31 := hx.c1
      replace f30 := hx.f0 0
      replace f31 := hx.f0 1
      clear hx
      have e0 := (H2.out.set (Tn.accB (fun i => Tn.xorF (Tn.bitT av am i) (Tn.bitT bv bm i) == 1) 64) (Tn.accB (fun i => Tn.xorF (Tn.bitT av am i) (Tn.bitT bv bm i) == 2) 64)).c0
      have e1 := (H2.out.set (Tn.accB (fun i => Tn.xorF (Tn.bitT av am i) (Tn.bitT bv bm i) == 1) 64) (Tn.accB (fun i => Tn.xorF (Tn.bitT av am i) (Tn.bitT bv bm i) == 2) 64)).c1
      go_wp2
      refine bodyPost_ret (by simp [results, Try.results21, go_sem, e0, e1]; try rfl) rfl ?_
      exact ⟨rfl, (HG.out.set (by omega) _).set (by omega) _⟩

end Go.Proofs.Ytoomcnjpomdbpaa
