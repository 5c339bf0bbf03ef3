/- Towards the statements of package tnum (layer 3): the document's Has, In and Meet, for every argument. -/
import Derived.Test.YtoomcnjpomdbpaaBits
namespace Go.Proofs.Ytoomcnjpomdbpaa
open Go.ChangeShapes Go.WideShapes Go.ChangeAt Go.RowKit
set_option linter.unusedVariables false
set_option maxRecDepth 20000

theorem bit_lit (x : BitVec 64) (k : Nat) : bits .and .u64 (iv (x >>> k)) 1 = if x.getLsbD k then 1 else 0 := by
  rw [iv_and1, bit_val]
  cases x.getLsbD k <;> rfl
set_option maxHeartbeats 2000000 in
theorem rhas_any (v m x : BitVec 64) (q : Bool) (hq : Hid (q = true ↔ Tn.Has v m x)) (w : World) : Calls Try.prog 14 #[.agg #[.int .u64 (iv v), .int .u64 (iv m)], .int .u64 (iv x)] w fun e w' => e = .returned (.bool q) ∧ Gr w w' := by
  go_enter Try.func14, Try.ntmps14
  go_wp2_with fail
  go_loopw [5] (fun i wr => ∃ k : Nat, k ≤ 64 ∧ i = .int .i64 k ∧ (∀ j, j < k → m.getLsbD j = false → x.getLsbD j = v.getLsbD j) ∧ At wr w.heap.size v m ∧ Gr w wr) (fun i _ => 64 - (intOf i).toNat)
  case atStart => exact ⟨0, by omega, rfl, fun j hj => absurd hj (by omega), At.new w v m, by go_grown, by go_grown⟩
  case round =>
    obtain ⟨k, hk, rfl, hs, h0, hg⟩ := hrel
    have HS : Hid (∀ j, j < k → m.getLsbD j = false → x.getLsbD j = v.getLsbD j) := hs
    have H0 : Hid (At wr w.heap.size v m) := h0
    have HG : Hid (Gr w wr) := hg
    clear hs h0 hg
    have hx := H0.out.gr (Gr.refl wr)
    replace c00 := hx.c0
    replace c01 := hx.c1
    clear hx
    by_cases hlt : k < 64
    · have r0 := @iv_shr
      have qx := bit_lit x k
      cases hm : m.getLsbD k
      · cases hv : v.getLsbD k
        · cases hx : x.getLsbD k
          · have ea : Tn.bitT v m k = 0 := by rw [Tn.bitT, hm, hv]; rfl
            rw [hx] at qx
            replace qx : bits .and .u64 (iv (x >>> k)) 1 = 0 := qx
            have HX : Hid (x.getLsbD k = false) := hx
            have HM : Hid (m.getLsbD k = false) := hm
            have HV : Hid (v.getLsbD k = false) := hv
            clear hx hm hv
            go_wp2_with (first
              | (go_at_call 43; refine (bit_gr _ _ hlt _).mono ?_; rintro e w' ⟨rfl, hh⟩))
            go_roundw
            case rel =>
              refine ⟨k + 1, by omega, by go_num, fun j hj hmj => ?_, H0.out.gr hh, HG.out.trans hh⟩
              rcases (by omega : j < k ∨ j = k) with h | rfl
              · exact HS.out j h hmj
              · rw [HX.out, HV.out]
            case measure => simp [intOf]; omega
          · have ea : Tn.bitT v m k = 0 := by rw [Tn.bitT, hm, hv]; rfl
            rw [hx] at qx
            replace qx : bits .and .u64 (iv (x >>> k)) 1 = 1 := qx
            have HX : Hid (x.getLsbD k = true) := hx
            have HM : Hid (m.getLsbD k = false) := hm
            have HV : Hid (v.getLsbD k = false) := hv
            clear hx hm hv
            go_wp2_with (first
              | (go_at_call 43; refine (bit_gr _ _ hlt _).mono ?_; rintro e w' ⟨rfl, hh⟩))
            go_ret
            have hf : q = false := by
              cases hqv : q
              · rfl
              · have := (hq.out.1 hqv) k hlt HM.out
                rw [HX.out, HV.out] at this; cases this
            exact ⟨by rw [hf]; rfl, HG.out.trans hh⟩
        · cases hx : x.getLsbD k
          · have ea : Tn.bitT v m k = 1 := by rw [Tn.bitT, hm, hv]; rfl
            rw [hx] at qx
            replace qx : bits .and .u64 (iv (x >>> k)) 1 = 0 := qx
            have HX : Hid (x.getLsbD k = false) := hx
            have HM : Hid (m.getLsbD k = false) := hm
            have HV : Hid (v.getLsbD k = true) := hv
            clear hx hm hv
            go_wp2_with (first
              | (go_at_call 43; refine (bit_gr _ _ hlt _).mono ?_; rintro e w' ⟨rfl, hh⟩))
            go_ret
            have hf : q = false := by
              cases hqv : q
              · rfl
              · have := (hq.out.1 hqv) k hlt HM.out
                rw [HX.out, HV.out] at this; cases this
            exact ⟨by rw [hf]; rfl, HG.out.trans hh⟩
          · have ea : Tn.bitT v m k = 1 := by rw [Tn.bitT, hm, hv]; rfl
            rw [hx] at qx
            replace qx : bits .and .u64 (iv (x >>> k)) 1 = 1 := qx
            have HX : Hid (x.getLsbD k = true) := hx
            have HM : Hid (m.getLsbD k = false) := hm
            have HV : Hid (v.getLsbD k = true) := hv
            clear hx hm hv
            go_wp2_with (first
              | (go_at_call 43; refine (bit_gr _ _ hlt _).mono ?_; rintro e w' ⟨rfl, hh⟩))
            go_roundw
            case rel =>
              refine ⟨k + 1, by omega, by go_num, fun j hj hmj => ?_, H0.out.gr hh, HG.out.trans hh⟩
              rcases (by omega : j < k ∨ j = k) with h | rfl
              · exact HS.out j h hmj
              · rw [HX.out, HV.out]
            case measure => simp [intOf]; omega
      · cases hx : x.getLsbD k
        · have ea : Tn.bitT v m k = 2 := by rw [Tn.bitT, hm]; rfl
          rw [hx] at qx
          replace qx : bits .and .u64 (iv (x >>> k)) 1 = 0 := qx
          have HX : Hid (x.getLsbD k = false) := hx
          have HM : Hid (m.getLsbD k = true) := hm
          clear hx hm
          go_wp2_with (first
            | (go_at_call 43; refine (bit_gr _ _ hlt _).mono ?_; rintro e w' ⟨rfl, hh⟩))
          go_roundw
          case rel =>
            refine ⟨k + 1, by omega, by go_num, fun j hj hmj => ?_, H0.out.gr hh, HG.out.trans hh⟩
            rcases (by omega : j < k ∨ j = k) with h | rfl
            · exact HS.out j h hmj
            · rw [HM.out] at hmj; cases hmj
          case measure => simp [intOf]; omega
        · have ea : Tn.bitT v m k = 2 := by rw [Tn.bitT, hm]; rfl
          rw [hx] at qx
          replace qx : bits .and .u64 (iv (x >>> k)) 1 = 1 := qx
          have HX : Hid (x.getLsbD k = true) := hx
          have HM : Hid (m.getLsbD k = true) := hm
          clear hx hm
          go_wp2_with (first
            | (go_at_call 43; refine (bit_gr _ _ hlt _).mono ?_; rintro e w' ⟨rfl, hh⟩))
          go_roundw
          case rel =>
            refine ⟨k + 1, by omega, by go_num, fun j hj hmj => ?_, H0.out.gr hh, HG.out.trans hh⟩
            rcases (by omega : j < k ∨ j = k) with h | rfl
            · exact HS.out j h hmj
            · rw [HM.out] at hmj; cases hmj
          case measure => simp [intOf]; omega
    · obtain rfl : k = 64 := by omega
      go_wp2
      go_ret
      have ht : q = true := hq.out.2 fun i hi hm => HS.out i hi hm
      exact ⟨by rw [ht]; rfl, HG.out⟩
set_option maxHeartbeats 4000000 in
theorem rin_any (av am bv bm : BitVec 64) (q : Bool) (hq : Hid (q = true ↔ Tn.In av am bv bm)) (w : World) : Calls Try.prog 16 #[.agg #[.int .u64 (iv av), .int .u64 (iv am)], .agg #[.int .u64 (iv bv), .int .u64 (iv bm)]] w fun e w' => e = .returned (.bool q) ∧ Gr w w' := by
  go_enter Try.func16, Try.ntmps16
  go_wp2_with fail
  go_loopw [5] (fun i wr => ∃ k : Nat, k ≤ 64 ∧ i = .int .i64 k ∧ (∀ j, j < k → Tn.bitT bv bm j ≠ 2 → Tn.bitT av am j = Tn.bitT bv bm j) ∧ At wr w.heap.size av am ∧ At wr (w.heap.size + 1) bv bm ∧ Gr w wr) (fun i _ => 64 - (intOf i).toNat)
  case atStart => exact ⟨0, by omega, rfl, fun j hj => absurd hj (by omega), ((At.newb _ (by simp) av am).alloc _), (At.newb _ (by simp) bv bm), by go_grown, by go_grown⟩
  case round =>
    obtain ⟨k, hk, rfl, hs, h0, h1, hg⟩ := hrel
    have HS : Hid (∀ j, j < k → Tn.bitT bv bm j ≠ 2 → Tn.bitT av am j = Tn.bitT bv bm j) := hs
    have H0 : Hid (At wr w.heap.size av am) := h0
    have H1 : Hid (At wr (w.heap.size + 1) bv bm) := h1
    have HG : Hid (Gr w wr) := hg
    clear hs h0 h1 hg
    by_cases hlt : k < 64
    · have p00 : ∀ p : GrBy wr, p.to.cell? ⟨w.heap.size, 0, none⟩ = _ := fun p => (H0.out.gr p.gr).c0
      have p01 : ∀ p : GrBy wr, p.to.cell? ⟨w.heap.size, 1, none⟩ = _ := fun p => (H0.out.gr p.gr).c1
      have p10 : ∀ p : GrBy wr, p.to.cell? ⟨w.heap.size + 1, 0, none⟩ = _ := fun p => (H1.out.gr p.gr).c0
      have p11 : ∀ p : GrBy wr, p.to.cell? ⟨w.heap.size + 1, 1, none⟩ = _ := fun p => (H1.out.gr p.gr).c1
      rcases Tn.bit_cases av am k with ea | ea | ea
      · rcases Tn.bit_cases bv bm k with eb | eb | eb
        · have EA : Hid (Tn.bitT av am k = 0) := ea
          have EB : Hid (Tn.bitT bv bm k = 0) := eb
          have q1 : ((Tn.bitT bv bm k : Nat) : Int) = 0 := by rw [eb]; rfl
          have q2 : ((Tn.bitT av am k : Nat) : Int) = 0 := by rw [ea]; rfl
          go_wp2_with fail
          have hne : Nonempty (GrBy wr) := ⟨⟨wr, Gr.refl wr⟩⟩
          refine wp_region_gr (by kernel_rfl) (by kernel_rfl) ?_
          repeat (first
            | go_big_quiet_skip
            | (go_big_quiet_want; go_big_quiet_op; first
              | go_big_quiet_on
              | (apply Exists.intro
                 refine ⟨fun p => ?_, ?_⟩
                 · first
                     | (go_at_call 43; exact calls_gr (bit_gr _ _ hlt _))
                 go_big_quiet_on)))
          refine wpQuiet_nil ?_
          intro _ hw'
          obtain ⟨p, rfl⟩ := hw'
          go_wp2
          go_roundw
          case rel =>
            refine ⟨k + 1, by omega, by go_num, fun j hj hmj => ?_, H0.out.gr p.gr, H1.out.gr p.gr, HG.out.trans p.gr⟩
            rcases (by omega : j < k ∨ j = k) with h | rfl
            · exact HS.out j h hmj
            · rw [EA.out, EB.out]
          case measure => simp [intOf]; omega
        · have EA : Hid (Tn.bitT av am k = 0) := ea
          have EB : Hid (Tn.bitT bv bm k = 1) := eb
          have q1 : ((Tn.bitT bv bm k : Nat) : Int) = 1 := by rw [eb]; rfl
          have q2 : ((Tn.bitT av am k : Nat) : Int) = 0 := by rw [ea]; rfl
          go_wp2_with fail
          have hne : Nonempty (GrBy wr) := ⟨⟨wr, Gr.refl wr⟩⟩
          refine wp_region_gr (by kernel_rfl) (by kernel_rfl) ?_
          repeat (first
            | go_big_quiet_skip
            | (go_big_quiet_want; go_big_quiet_op; first
              | go_big_quiet_on
              | (apply Exists.intro
                 refine ⟨fun p => ?_, ?_⟩
                 · first
                     | (go_at_call 43; exact calls_gr (bit_gr _ _ hlt _))
                 go_big_quiet_on)))
          refine wpQuiet_nil ?_
          intro _ hw'
          obtain ⟨p, rfl⟩ := hw'
          go_wp2
          go_ret
          have hf : q = false := by
            cases hqv : q
            · rfl
            · have := (Tn.in_bits.1 (hq.out.1 hqv)) k hlt (by rw [EB.out]; decide)
              rw [EA.out, EB.out] at this; cases this
          exact ⟨by rw [hf]; rfl, HG.out.trans p.gr⟩
        · have EA : Hid (Tn.bitT av am k = 0) := ea
          have EB : Hid (Tn.bitT bv bm k = 2) := eb
          have q1 : ((Tn.bitT bv bm k : Nat) : Int) = 2 := by rw [eb]; rfl
          have q2 : ((Tn.bitT av am k : Nat) : Int) = 0 := by rw [ea]; rfl
          go_wp2_with fail
          have hne : Nonempty (GrBy wr) := ⟨⟨wr, Gr.refl wr⟩⟩
          refine wp_region_gr (by kernel_rfl) (by kernel_rfl) ?_
          repeat (first
            | go_big_quiet_skip
            | (go_big_quiet_want; go_big_quiet_op; first
              | go_big_quiet_on
              | (apply Exists.intro
                 refine ⟨fun p => ?_, ?_⟩
                 · first
                     | (go_at_call 43; exact calls_gr (bit_gr _ _ hlt _))
                 go_big_quiet_on)))
          refine wpQuiet_nil ?_
          intro _ hw'
          obtain ⟨p, rfl⟩ := hw'
          go_wp2
          go_roundw
          case rel =>
            refine ⟨k + 1, by omega, by go_num, fun j hj hmj => ?_, H0.out.gr p.gr, H1.out.gr p.gr, HG.out.trans p.gr⟩
            rcases (by omega : j < k ∨ j = k) with h | rfl
            · exact HS.out j h hmj
            · rw [EB.out] at hmj; exact absurd rfl hmj
          case measure => simp [intOf]; omega
      · rcases Tn.bit_cases bv bm k with eb | eb | eb
        · have EA : Hid (Tn.bitT av am k = 1) := ea
          have EB : Hid (Tn.bitT bv bm k = 0) := eb
          have q1 : ((Tn.bitT bv bm k : Nat) : Int) = 0 := by rw [eb]; rfl
          have q2 : ((Tn.bitT av am k : Nat) : Int) = 1 := by rw [ea]; rfl
          go_wp2_with fail
          have hne : Nonempty (GrBy wr) := ⟨⟨wr, Gr.refl wr⟩⟩
          refine wp_region_gr (by kernel_rfl) (by kernel_rfl) ?_
          repeat (first
            | go_big_quiet_skip
            | (go_big_quiet_want; go_big_quiet_op; first
              | go_big_quiet_on
              | (apply Exists.intro
                 refine ⟨fun p => ?_, ?_⟩
                 · first
                     | (go_at_call 43; exact calls_gr (bit_gr _ _ hlt _))
                 go_big_quiet_on)))
          refine wpQuiet_nil ?_
          intro _ hw'
          obtain ⟨p, rfl⟩ := hw'
          go_wp2
          go_ret
          have hf : q = false := by
            cases hqv : q
            · rfl
            · have := (Tn.in_bits.1 (hq.out.1 hqv)) k hlt (by rw [EB.out]; decide)
              rw [EA.out, EB.out] at this; cases this
          exact ⟨by rw [hf]; rfl, HG.out.trans p.gr⟩
        · have EA : Hid (Tn.bitT av am k = 1) := ea
          have EB : Hid (Tn.bitT bv bm k = 1) := eb
          have q1 : ((Tn.bitT bv bm k : Nat) : Int) = 1 := by rw [eb]; rfl
          have q2 : ((Tn.bitT av am k : Nat) : Int) = 1 := by rw [ea]; rfl
          go_wp2_with fail
          have hne : Nonempty (GrBy wr) := ⟨⟨wr, Gr.refl wr⟩⟩
          refine wp_region_gr (by kernel_rfl) (by kernel_rfl) ?_
          repeat (first
            | go_big_quiet_skip
            | (go_big_quiet_want; go_big_quiet_op; first
              | go_big_quiet_on
              | (apply Exists.intro
                 refine ⟨fun p => ?_, ?_⟩
                 · first
                     | (go_at_call 43; exact calls_gr (bit_gr _ _ hlt _))
                 go_big_quiet_on)))
          refine wpQuiet_nil ?_
          intro _ hw'
          obtain ⟨p, rfl⟩ := hw'
          go_wp2
          go_roundw
          case rel =>
            refine ⟨k + 1, by omega, by go_num, fun j hj hmj => ?_, H0.out.gr p.gr, H1.out.gr p.gr, HG.out.trans p.gr⟩
            rcases (by omega : j < k ∨ j = k) with h | rfl
            · exact HS.out j h hmj
            · rw [EA.out, EB.out]
          case measure => simp [intOf]; omega
        · have EA : Hid (Tn.bitT av am k = 1) := ea
          have EB : Hid (Tn.bitT bv bm k = 2) := eb
          have q1 : ((Tn.bitT bv bm k : Nat) : Int) = 2 := by rw [eb]; rfl
          have q2 : ((Tn.bitT av am k : Nat) : Int) = 1 := by rw [ea]; rfl
          go_wp2_with fail
          have hne : Nonempty (GrBy wr) := ⟨⟨wr, Gr.refl wr⟩⟩
          refine wp_region_gr (by kernel_rfl) (by kernel_rfl) ?_
          repeat (first
            | go_big_quiet_skip
            | (go_big_quiet_want; go_big_quiet_op; first
              | go_big_quiet_on
              | (apply Exists.intro
                 refine ⟨fun p => ?_, ?_⟩
                 · first
                     | (go_at_call 43; exact calls_gr (bit_gr _ _ hlt _))
                 go_big_quiet_on)))
          refine wpQuiet_nil ?_
          intro _ hw'
          obtain ⟨p, rfl⟩ := hw'
          go_wp2
          go_roundw
          case rel =>
            refine ⟨k + 1, by omega, by go_num, fun j hj hmj => ?_, H0.out.gr p.gr, H1.out.gr p.gr, HG.out.trans p.gr⟩
            rcases (by omega : j < k ∨ j = k) with h | rfl
            · exact HS.out j h hmj
            · rw [EB.out] at hmj; exact absurd rfl hmj
          case measure => simp [intOf]; omega
      · rcases Tn.bit_cases bv bm k with eb | eb | eb
        · have EA : Hid (Tn.bitT av am k = 2) := ea
          have EB : Hid (Tn.bitT bv bm k = 0) := eb
          have q1 : ((Tn.bitT bv bm k : Nat) : Int) = 0 := by rw [eb]; rfl
          have q2 : ((Tn.bitT av am k : Nat) : Int) = 2 := by rw [ea]; rfl
          go_wp2_with fail
          have hne : Nonempty (GrBy wr) := ⟨⟨wr, Gr.refl wr⟩⟩
          refine wp_region_gr (by kernel_rfl) (by kernel_rfl) ?_
          repeat (first
            | go_big_quiet_skip
            | (go_big_quiet_want; go_big_quiet_op; first
              | go_big_quiet_on
              | (apply Exists.intro
                 refine ⟨fun p => ?_, ?_⟩
                 · first
                     | (go_at_call 43; exact calls_gr (bit_gr _ _ hlt _))
                 go_big_quiet_on)))
          refine wpQuiet_nil ?_
          intro _ hw'
          obtain ⟨p, rfl⟩ := hw'
          go_wp2
          go_ret
          have hf : q = false := by
            cases hqv : q
            · rfl
            · have := (Tn.in_bits.1 (hq.out.1 hqv)) k hlt (by rw [EB.out]; decide)
              rw [EA.out, EB.out] at this; cases this
          exact ⟨by rw [hf]; rfl, HG.out.trans p.gr⟩
        · have EA : Hid (Tn.bitT av am k = 2) := ea
          have EB : Hid (Tn.bitT bv bm k = 1) := eb
          have q1 : ((Tn.bitT bv bm k : Nat) : Int) = 1 := by rw [eb]; rfl
          have q2 : ((Tn.bitT av am k : Nat) : Int) = 2 := by rw [ea]; rfl
          go_wp2_with fail
          have hne : Nonempty (GrBy wr) := ⟨⟨wr, Gr.refl wr⟩⟩
          refine wp_region_gr (by kernel_rfl) (by kernel_rfl) ?_
          repeat (first
            | go_big_quiet_skip
            | (go_big_quiet_want; go_big_quiet_op; first
              | go_big_quiet_on
              | (apply Exists.intro
                 refine ⟨fun p => ?_, ?_⟩
                 · first
                     | (go_at_call 43; exact calls_gr (bit_gr _ _ hlt _))
                 go_big_quiet_on)))
          refine wpQuiet_nil ?_
          intro _ hw'
          obtain ⟨p, rfl⟩ := hw'
          go_wp2
          go_ret
          have hf : q = false := by
            cases hqv : q
            · rfl
            · have := (Tn.in_bits.1 (hq.out.1 hqv)) k hlt (by rw [EB.out]; decide)
              rw [EA.out, EB.out] at this; cases this
          exact ⟨by rw [hf]; rfl, HG.out.trans p.gr⟩
        · have EA : Hid (Tn.bitT av am k = 2) := ea
          have EB : Hid (Tn.bitT bv bm k = 2) := eb
          have q1 : ((Tn.bitT bv bm k : Nat) : Int) = 2 := by rw [eb]; rfl
          have q2 : ((Tn.bitT av am k : Nat) : Int) = 2 := by rw [ea]; rfl
          go_wp2_with fail
          have hne : Nonempty (GrBy wr) := ⟨⟨wr, Gr.refl wr⟩⟩
          refine wp_region_gr (by kernel_rfl) (by kernel_rfl) ?_
          repeat (first
            | go_big_quiet_skip
            | (go_big_quiet_want; go_big_quiet_op; first
              | go_big_quiet_on
              | (apply Exists.intro
                 refine ⟨fun p => ?_, ?_⟩
                 · first
                     | (go_at_call 43; exact calls_gr (bit_gr _ _ hlt _))
                 go_big_quiet_on)))
          refine wpQuiet_nil ?_
          intro _ hw'
          obtain ⟨p, rfl⟩ := hw'
          go_wp2
          go_roundw
          case rel =>
            refine ⟨k + 1, by omega, by go_num, fun j hj hmj => ?_, H0.out.gr p.gr, H1.out.gr p.gr, HG.out.trans p.gr⟩
            rcases (by omega : j < k ∨ j = k) with h | rfl
            · exact HS.out j h hmj
            · rw [EB.out] at hmj; exact absurd rfl hmj
          case measure => simp [intOf]; omega
    · obtain rfl : k = 64 := by omega
      go_wp2
      go_ret
      have ht : q = true := hq.out.2 (Tn.in_bits.2 fun i hi hm => HS.out i hi hm)
      exact ⟨by rw [ht]; rfl, HG.out⟩
def meetF (x y : Nat) : Nat := if x = 2 then y else x
def meetG (x y : Nat) : Bool := x == 2 || y == 2 || x == y
set_option maxHeartbeats 4000000 in
theorem rmeet_any (av am bv bm : BitVec 64) (q : Bool) (hq : Hid (q = true ↔ ∀ i, i < 64 → meetG (Tn.bitT av am i) (Tn.bitT bv bm i) = true)) (V M : BitVec 64) (hy : Hid (q = true → V = (Tn.mkV fun i => meetF (Tn.bitT av am i) (Tn.bitT bv bm i)) ∧ M = Tn.mkM fun i => meetF (Tn.bitT av am i) (Tn.bitT bv bm i))) (hn : Hid (q = false → V = 0#64 ∧ M = 0#64)) (w : World) : Calls Try.prog 11 #[.agg #[.int .u64 (iv av), .int .u64 (iv am)], .agg #[.int .u64 (iv bv), .int .u64 (iv bm)]] w fun e w' => e = .returned (.tuple #[.agg #[.int .u64 (iv V), .int .u64 (iv M)], .bool q]) ∧ Gr w w' := by
  unfold Tn.mkV Tn.mkM at hy
  go_enter Try.func11, Try.ntmps11
  go_wp2_with fail
  go_loopw [7] (fun i wr => ∃ k : Nat, k ≤ 64 ∧ i = .int .i64 k ∧ (∀ j, j < k → meetG (Tn.bitT av am j) (Tn.bitT bv bm j) = true) ∧ At wr w.heap.size av am ∧ At wr (w.heap.size + 1) bv bm ∧ At wr (w.heap.size + 1 + 1) 0#64 0#64 ∧ At wr (w.heap.size + 1 + 1 + 1) (Tn.accB (fun i => meetF (Tn.bitT av am i) (Tn.bitT bv bm i) == 1) k) (Tn.accB (fun i => meetF (Tn.bitT av am i) (Tn.bitT bv bm i) == 2) k) ∧ Gr w wr) (fun i _ => 64 - (intOf i).toNat)
  case atStart => exact ⟨0, by omega, rfl, fun j hj => absurd hj (by omega), ((((At.newb _ (by simp) av am).alloc _).alloc _).alloc _), (((At.newb _ (by simp) bv bm).alloc _).alloc _), ((At.newz _ (by simp)).alloc _), (At.newz _ (by simp)), by go_grown, by go_grown⟩
  case round =>
    obtain ⟨k, hk, rfl, hs, h0, h1, h2, h3, hg⟩ := hrel
    have HS : Hid (∀ j, j < k → meetG (Tn.bitT av am j) (Tn.bitT bv bm j) = true) := hs
    have H0 : Hid (At wr w.heap.size av am) := h0
    have H1 : Hid (At wr (w.heap.size + 1) bv bm) := h1
    have H2 : Hid (At wr (w.heap.size + 1 + 1) 0#64 0#64) := h2
    have H3 : Hid (At wr (w.heap.size + 1 + 1 + 1) (Tn.accB (fun i => meetF (Tn.bitT av am i) (Tn.bitT bv bm i) == 1) k) (Tn.accB (fun i => meetF (Tn.bitT av am i) (Tn.bitT bv bm i) == 2) k)) := h3
    have HG : Hid (Gr w wr) := hg
    clear hs h0 h1 h2 h3 hg
    by_cases hlt : k < 64
    · have p00 : ∀ p : GrBy wr, p.to.cell? ⟨w.heap.size, 0, none⟩ = _ := fun p => (H0.out.gr p.gr).c0
      have p01 : ∀ p : GrBy wr, p.to.cell? ⟨w.heap.size, 1, none⟩ = _ := fun p => (H0.out.gr p.gr).c1
      have p10 : ∀ p : GrBy wr, p.to.cell? ⟨w.heap.size + 1, 0, none⟩ = _ := fun p => (H1.out.gr p.gr).c0
      have p11 : ∀ p : GrBy wr, p.to.cell? ⟨w.heap.size + 1, 1, none⟩ = _ := fun p => (H1.out.gr p.gr).c1
      rcases Tn.bit_cases av am k with ea | ea | ea
      · rcases Tn.bit_cases bv bm k with eb | eb | eb
        · have EA : Hid (Tn.bitT av am k = 0) := ea
          have EB : Hid (Tn.bitT bv bm k = 0) := eb
          have HE : Hid (meetF (Tn.bitT av am k) (Tn.bitT bv bm k) = 0) := by rw [ea, eb]; rfl
          go_wp2_with fail
          have hne : Nonempty (GrBy wr) := ⟨⟨wr, Gr.refl wr⟩⟩
          refine wp_region_gr (by kernel_rfl) (by kernel_rfl) ?_
          repeat (first
            | go_big_quiet_skip
            | (go_big_quiet_want; go_big_quiet_op; first
              | go_big_quiet_on
              | (apply Exists.intro
                 refine ⟨fun p => ?_, ?_⟩
                 · first
                     | (go_at_call 43; exact calls_gr (bit_gr _ _ hlt _))
                 go_big_quiet_on)))
          refine wpQuiet_nil ?_
          intro _ hw'
          obtain ⟨p, rfl⟩ := hw'
          have hx := H3.out.gr p.gr
          replace c30 := hx.c0
          replace c31 := hx.c1
          replace f30 := hx.f0 0
          replace f31 := hx.f0 1
          clear hx
          go_wp2_with (first
            | (go_at_call 44; refine (put_gr0 _ _ hlt _).mono ?_; rintro e w' ⟨rfl, hh⟩; have hx := H3.out.gr (p.gr.trans hh); replace c30 := hx.c0; replace c31 := hx.c1; replace f30 := hx.f0 0; replace f31 := hx.f0 1; clear hx))
          go_roundw
          case rel =>
            have hacc := acc_put (fun i => meetF (Tn.bitT av am i) (Tn.bitT bv bm i)) k 0 HE.out
            refine ⟨k + 1, by omega, by go_num, fun j hj => ?_, (((H0.out.gr (p.gr.trans hh)).other (by omega) _).other (by omega) _), (((H1.out.gr (p.gr.trans hh)).other (by omega) _).other (by omega) _), (((H2.out.gr (p.gr.trans hh)).other (by omega) _).other (by omega) _), (by rw [hacc.1, hacc.2]; exact (H3.out.gr (p.gr.trans hh)).set _ _), ((HG.out.trans (p.gr.trans hh)).set (by omega) _).set (by omega) _⟩
            rcases (by omega : j < k ∨ j = k) with h | rfl
            · exact HS.out j h
            · rw [EA.out, EB.out]; rfl
          case measure => simp [intOf]; omega
        · have EA : Hid (Tn.bitT av am k = 0) := ea
          have EB : Hid (Tn.bitT bv bm k = 1) := eb
          have HE : Hid (meetF (Tn.bitT av am k) (Tn.bitT bv bm k) = 0) := by rw [ea, eb]; rfl
          go_wp2_with fail
          have hne : Nonempty (GrBy wr) := ⟨⟨wr, Gr.refl wr⟩⟩
          refine wp_region_gr (by kernel_rfl) (by kernel_rfl) ?_
          repeat (first
            | go_big_quiet_skip
            | (go_big_quiet_want; go_big_quiet_op; first
              | go_big_quiet_on
              | (apply Exists.intro
                 refine ⟨fun p => ?_, ?_⟩
                 · first
                     | (go_at_call 43; exact calls_gr (bit_gr _ _ hlt _))
                 go_big_quiet_on)))
          refine wpQuiet_nil ?_
          intro _ hw'
          obtain ⟨p, rfl⟩ := hw'
          have hx := H2.out.gr p.gr
          replace c20 := hx.c0
          replace c21 := hx.c1
          replace f20 := hx.f0 0
          replace f21 := hx.f0 1
          clear hx
          have e0 := ((H2.out.gr p.gr).set 0#64 0#64).c0
          have e1 := ((H2.out.gr p.gr).set 0#64 0#64).c1
          rw [iv_zero] at e0 e1
          go_wp2
          refine bodyPost_ret (by simp [results, Try.results11, go_sem, e0, e1]; try rfl) rfl ?_
          have hf : q = false := by
            cases hqv : q
            · rfl
            · have := (hq.out.1 hqv) k hlt
              rw [EA.out, EB.out] at this; cases this
          exact ⟨by rw [hf, (hn.out hf).1, (hn.out hf).2]; rfl, ((HG.out.trans p.gr).set (by omega) _).set (by omega) _⟩
        · have EA : Hid (Tn.bitT av am k = 0) := ea
          have EB : Hid (Tn.bitT bv bm k = 2) := eb
          have HE : Hid (meetF (Tn.bitT av am k) (Tn.bitT bv bm k) = 0) := by rw [ea, eb]; rfl
          go_wp2_with fail
          have hne : Nonempty (GrBy wr) := ⟨⟨wr, Gr.refl wr⟩⟩
          refine wp_region_gr (by kernel_rfl) (by kernel_rfl) ?_
          repeat (first
            | go_big_quiet_skip
            | (go_big_quiet_want; go_big_quiet_op; first
              | go_big_quiet_on
              | (apply Exists.intro
                 refine ⟨fun p => ?_, ?_⟩
                 · first
                     | (go_at_call 43; exact calls_gr (bit_gr _ _ hlt _))
                 go_big_quiet_on)))
          refine wpQuiet_nil ?_
          intro _ hw'
          obtain ⟨p, rfl⟩ := hw'
          have hx := H3.out.gr p.gr
          replace c30 := hx.c0
          replace c31 := hx.c1
          replace f30 := hx.f0 0
          replace f31 := hx.f0 1
          clear hx
          go_wp2_with (first
            | (go_at_call 44; refine (put_gr0 _ _ hlt _).mono ?_; rintro e w' ⟨rfl, hh⟩; have hx := H3.out.gr (p.gr.trans hh); replace c30 := hx.c0; replace c31 := hx.c1; replace f30 := hx.f0 0; replace f31 := hx.f0 1; clear hx))
          go_roundw
          case rel =>
            have hacc := acc_put (fun i => meetF (Tn.bitT av am i) (Tn.bitT bv bm i)) k 0 HE.out
            refine ⟨k + 1, by omega, by go_num, fun j hj => ?_, (((H0.out.gr (p.gr.trans hh)).other (by omega) _).other (by omega) _), (((H1.out.gr (p.gr.trans hh)).other (by omega) _).other (by omega) _), (((H2.out.gr (p.gr.trans hh)).other (by omega) _).other (by omega) _), (by rw [hacc.1, hacc.2]; exact (H3.out.gr (p.gr.trans hh)).set _ _), ((HG.out.trans (p.gr.trans hh)).set (by omega) _).set (by omega) _⟩
            rcases (by omega : j < k ∨ j = k) with h | rfl
            · exact HS.out j h
            · rw [EA.out, EB.out]; rfl
          case measure => simp [intOf]; omega
      · rcases Tn.bit_cases bv bm k with eb | eb | eb
        · have EA : Hid (Tn.bitT av am k = 1) := ea
          have EB : Hid (Tn.bitT bv bm k = 0) := eb
          have HE : Hid (meetF (Tn.bitT av am k) (Tn.bitT bv bm k) = 1) := by rw [ea, eb]; rfl
          go_wp2_with fail
          have hne : Nonempty (GrBy wr) := ⟨⟨wr, Gr.refl wr⟩⟩
          refine wp_region_gr (by kernel_rfl) (by kernel_rfl) ?_
          repeat (first
            | go_big_quiet_skip
            | (go_big_quiet_want; go_big_quiet_op; first
              | go_big_quiet_on
              | (apply Exists.intro
                 refine ⟨fun p => ?_, ?_⟩
                 · first
                     | (go_at_call 43; exact calls_gr (bit_gr _ _ hlt _))
                 go_big_quiet_on)))
          refine wpQuiet_nil ?_
          intro _ hw'
          obtain ⟨p, rfl⟩ := hw'
          have hx := H2.out.gr p.gr
          replace c20 := hx.c0
          replace c21 := hx.c1
          replace f20 := hx.f0 0
          replace f21 := hx.f0 1
          clear hx
          have e0 := ((H2.out.gr p.gr).set 0#64 0#64).c0
          have e1 := ((H2.out.gr p.gr).set 0#64 0#64).c1
          rw [iv_zero] at e0 e1
          go_wp2
          refine bodyPost_ret (by simp [results, Try.results11, go_sem, e0, e1]; try rfl) rfl ?_
          have hf : q = false := by
            cases hqv : q
            · rfl
            · have := (hq.out.1 hqv) k hlt
              rw [EA.out, EB.out] at this; cases this
          exact ⟨by rw [hf, (hn.out hf).1, (hn.out hf).2]; rfl, ((HG.out.trans p.gr).set (by omega) _).set (by omega) _⟩
        · have EA : Hid (Tn.bitT av am k = 1) := ea
          have EB : Hid (Tn.bitT bv bm k = 1) := eb
          have HE : Hid (meetF (Tn.bitT av am k) (Tn.bitT bv bm k) = 1) := by rw [ea, eb]; rfl
          go_wp2_with fail
          have hne : Nonempty (GrBy wr) := ⟨⟨wr, Gr.refl wr⟩⟩
          refine wp_region_gr (by kernel_rfl) (by kernel_rfl) ?_
          repeat (first
            | go_big_quiet_skip
            | (go_big_quiet_want; go_big_quiet_op; first
              | go_big_quiet_on
              | (apply Exists.intro
                 refine ⟨fun p => ?_, ?_⟩
                 · first
                     | (go_at_call 43; exact calls_gr (bit_gr _ _ hlt _))
                 go_big_quiet_on)))
          refine wpQuiet_nil ?_
          intro _ hw'
          obtain ⟨p, rfl⟩ := hw'
          have hx := H3.out.gr p.gr
          replace c30 := hx.c0
          replace c31 := hx.c1
          replace f30 := hx.f0 0
          replace f31 := hx.f0 1
          clear hx
          go_wp2_with (first
            | (go_at_call 44; refine (put_gr1 _ _ hlt _).mono ?_; rintro e w' ⟨rfl, hh⟩; have hx := H3.out.gr (p.gr.trans hh); replace c30 := hx.c0; replace c31 := hx.c1; replace f30 := hx.f0 0; replace f31 := hx.f0 1; clear hx))
          go_roundw
          case rel =>
            have hacc := acc_put (fun i => meetF (Tn.bitT av am i) (Tn.bitT bv bm i)) k 1 HE.out
            refine ⟨k + 1, by omega, by go_num, fun j hj => ?_, (((H0.out.gr (p.gr.trans hh)).other (by omega) _).other (by omega) _), (((H1.out.gr (p.gr.trans hh)).other (by omega) _).other (by omega) _), (((H2.out.gr (p.gr.trans hh)).other (by omega) _).other (by omega) _), (by rw [hacc.1, hacc.2]; exact (H3.out.gr (p.gr.trans hh)).set _ _), ((HG.out.trans (p.gr.trans hh)).set (by omega) _).set (by omega) _⟩
            rcases (by omega : j < k ∨ j = k) with h | rfl
            · exact HS.out j h
            · rw [EA.out, EB.out]; rfl
          case measure => simp [intOf]; omega
        · have EA : Hid (Tn.bitT av am k = 1) := ea
          have EB : Hid (Tn.bitT bv bm k = 2) := eb
          have HE : Hid (meetF (Tn.bitT av am k) (Tn.bitT bv bm k) = 1) := by rw [ea, eb]; rfl
          go_wp2_with fail
          have hne : Nonempty (GrBy wr) := ⟨⟨wr, Gr.refl wr⟩⟩
          refine wp_region_gr (by kernel_rfl) (by kernel_rfl) ?_
          repeat (first
            | go_big_quiet_skip
            | (go_big_quiet_want; go_big_quiet_op; first
              | go_big_quiet_on
              | (apply Exists.intro
                 refine ⟨fun p => ?_, ?_⟩
                 · first
                     | (go_at_call 43; exact calls_gr (bit_gr _ _ hlt _))
                 go_big_quiet_on)))
          refine wpQuiet_nil ?_
          intro _ hw'
          obtain ⟨p, rfl⟩ := hw'
          have hx := H3.out.gr p.gr
          replace c30 := hx.c0
          replace c31 := hx.c1
          replace f30 := hx.f0 0
          replace f31 := hx.f0 1
          clear hx
          go_wp2_with (first
            | (go_at_call 44; refine (put_gr1 _ _ hlt _).mono ?_; rintro e w' ⟨rfl, hh⟩; have hx := H3.out.gr (p.gr.trans hh); replace c30 := hx.c0; replace c31 := hx.c1; replace f30 := hx.f0 0; replace f31 := hx.f0 1; clear hx))
          go_roundw
          case rel =>
            have hacc := acc_put (fun i => meetF (Tn.bitT av am i) (Tn.bitT bv bm i)) k 1 HE.out
            refine ⟨k + 1, by omega, by go_num, fun j hj => ?_, (((H0.out.gr (p.gr.trans hh)).other (by omega) _).other (by omega) _), (((H1.out.gr (p.gr.trans hh)).other (by omega) _).other (by omega) _), (((H2.out.gr (p.gr.trans hh)).other (by omega) _).other (by omega) _), (by rw [hacc.1, hacc.2]; exact (H3.out.gr (p.gr.trans hh)).set _ _), ((HG.out.trans (p.gr.trans hh)).set (by omega) _).set (by omega) _⟩
            rcases (by omega : j < k ∨ j = k) with h | rfl
            · exact HS.out j h
            · rw [EA.out, EB.out]; rfl
          case measure => simp [intOf]; omega
      · rcases Tn.bit_cases bv bm k with eb | eb | eb
        · have EA : Hid (Tn.bitT av am k = 2) := ea
          have EB : Hid (Tn.bitT bv bm k = 0) := eb
          have HE : Hid (meetF (Tn.bitT av am k) (Tn.bitT bv bm k) = 0) := by rw [ea, eb]; rfl
          go_wp2_with fail
          have hne : Nonempty (GrBy wr) := ⟨⟨wr, Gr.refl wr⟩⟩
          refine wp_region_gr (by kernel_rfl) (by kernel_rfl) ?_
          repeat (first
            | go_big_quiet_skip
            | (go_big_quiet_want; go_big_quiet_op; first
              | go_big_quiet_on
              | (apply Exists.intro
                 refine ⟨fun p => ?_, ?_⟩
                 · first
                     | (go_at_call 43; exact calls_gr (bit_gr _ _ hlt _))
                 go_big_quiet_on)))
          refine wpQuiet_nil ?_
          intro _ hw'
          obtain ⟨p, rfl⟩ := hw'
          have hx := H3.out.gr p.gr
          replace c30 := hx.c0
          replace c31 := hx.c1
          replace f30 := hx.f0 0
          replace f31 := hx.f0 1
          clear hx
          go_wp2_with (first
            | (go_at_call 44; refine (put_gr0 _ _ hlt _).mono ?_; rintro e w' ⟨rfl, hh⟩; have hx := H3.out.gr (p.gr.trans hh); replace c30 := hx.c0; replace c31 := hx.c1; replace f30 := hx.f0 0; replace f31 := hx.f0 1; clear hx))
          go_roundw
          case rel =>
            have hacc := acc_put (fun i => meetF (Tn.bitT av am i) (Tn.bitT bv bm i)) k 0 HE.out
            refine ⟨k + 1, by omega, by go_num, fun j hj => ?_, (((H0.out.gr (p.gr.trans hh)).other (by omega) _).other (by omega) _), (((H1.out.gr (p.gr.trans hh)).other (by omega) _).other (by omega) _), (((H2.out.gr (p.gr.trans hh)).other (by omega) _).other (by omega) _), (by rw [hacc.1, hacc.2]; exact (H3.out.gr (p.gr.trans hh)).set _ _), ((HG.out.trans (p.gr.trans hh)).set (by omega) _).set (by omega) _⟩
            rcases (by omega : j < k ∨ j = k) with h | rfl
            · exact HS.out j h
            · rw [EA.out, EB.out]; rfl
          case measure => simp [intOf]; omega
        · have EA : Hid (Tn.bitT av am k = 2) := ea
          have EB : Hid (Tn.bitT bv bm k = 1) := eb
          have HE : Hid (meetF (Tn.bitT av am k) (Tn.bitT bv bm k) = 1) := by rw [ea, eb]; rfl
          go_wp2_with fail
          have hne : Nonempty (GrBy wr) := ⟨⟨wr, Gr.refl wr⟩⟩
          refine wp_region_gr (by kernel_rfl) (by kernel_rfl) ?_
          repeat (first
            | go_big_quiet_skip
            | (go_big_quiet_want; go_big_quiet_op; first
              | go_big_quiet_on
              | (apply Exists.intro
                 refine ⟨fun p => ?_, ?_⟩
                 · first
                     | (go_at_call 43; exact calls_gr (bit_gr _ _ hlt _))
                 go_big_quiet_on)))
          refine wpQuiet_nil ?_
          intro _ hw'
          obtain ⟨p, rfl⟩ := hw'
          have hx := H3.out.gr p.gr
          replace c30 := hx.c0
          replace c31 := hx.c1
          replace f30 := hx.f0 0
          replace f31 := hx.f0 1
          clear hx
          go_wp2_with (first
            | (go_at_call 44; refine (put_gr1 _ _ hlt _).mono ?_; rintro e w' ⟨rfl, hh⟩; have hx := H3.out.gr (p.gr.trans hh); replace c30 := hx.c0; replace c31 := hx.c1; replace f30 := hx.f0 0; replace f31 := hx.f0 1; clear hx))
          go_roundw
          case rel =>
            have hacc := acc_put (fun i => meetF (Tn.bitT av am i) (Tn.bitT bv bm i)) k 1 HE.out
            refine ⟨k + 1, by omega, by go_num, fun j hj => ?_, (((H0.out.gr (p.gr.trans hh)).other (by omega) _).other (by omega) _), (((H1.out.gr (p.gr.trans hh)).other (by omega) _).other (by omega) _), (((H2.out.gr (p.gr.trans hh)).other (by omega) _).other (by omega) _), (by rw [hacc.1, hacc.2]; exact (H3.out.gr (p.gr.trans hh)).set _ _), ((HG.out.trans (p.gr.trans hh)).set (by omega) _).set (by omega) _⟩
            rcases (by omega : j < k ∨ j = k) with h | rfl
            · exact HS.out j h
            · rw [EA.out, EB.out]; rfl
          case measure => simp [intOf]; omega
        · have EA : Hid (Tn.bitT av am k = 2) := ea
          have EB : Hid (Tn.bitT bv bm k = 2) := eb
          have HE : Hid (meetF (Tn.bitT av am k) (Tn.bitT bv bm k) = 2) := by rw [ea, eb]; rfl
          go_wp2_with fail
          have hne : Nonempty (GrBy wr) := ⟨⟨wr, Gr.refl wr⟩⟩
          refine wp_region_gr (by kernel_rfl) (by kernel_rfl) ?_
          repeat (first
            | go_big_quiet_skip
            | (go_big_quiet_want; go_big_quiet_op; first
              | go_big_quiet_on
              | (apply Exists.intro
                 refine ⟨fun p => ?_, ?_⟩
                 · first
                     | (go_at_call 43; exact calls_gr (bit_gr _ _ hlt _))
                 go_big_quiet_on)))
          refine wpQuiet_nil ?_
          intro _ hw'
          obtain ⟨p, rfl⟩ := hw'
          have hx := H3.out.gr p.gr
          replace c30 := hx.c0
          replace c31 := hx.c1
          replace f30 := hx.f0 0
          replace f31 := hx.f0 1
          clear hx
          go_wp2_with (first
            | (go_at_call 44; refine (put_gr2 _ _ hlt _).mono ?_; rintro e w' ⟨rfl, hh⟩; have hx := H3.out.gr (p.gr.trans hh); replace c30 := hx.c0; replace c31 := hx.c1; replace f30 := hx.f0 0; replace f31 := hx.f0 1; clear hx))
          go_roundw
          case rel =>
            have hacc := acc_put (fun i => meetF (Tn.bitT av am i) (Tn.bitT bv bm i)) k 2 HE.out
            refine ⟨k + 1, by omega, by go_num, fun j hj => ?_, (((H0.out.gr (p.gr.trans hh)).other (by omega) _).other (by omega) _), (((H1.out.gr (p.gr.trans hh)).other (by omega) _).other (by omega) _), (((H2.out.gr (p.gr.trans hh)).other (by omega) _).other (by omega) _), (by rw [hacc.1, hacc.2]; exact (H3.out.gr (p.gr.trans hh)).set _ _), ((HG.out.trans (p.gr.trans hh)).set (by omega) _).set (by omega) _⟩
            rcases (by omega : j < k ∨ j = k) with h | rfl
            · exact HS.out j h
            · rw [EA.out, EB.out]; rfl
          case measure => simp [intOf]; omega
    · obtain rfl : k = 64 := by omega
      have hx := H2.out.gr (Gr.refl wr)
      replace c20 := hx.c0
      replace c21 := hx.c1
      replace f20 := hx.f0 0
      replace f21 := hx.f0 1
      clear hx
      have hx := H3.out.gr (Gr.refl wr)
      replace c30 := hx.c0
      replace c31 := hx.c1
      replace f30 := hx.f0 0
      replace f31 := hx.f0 1
      clear hx
      have e0 := (H2.out.set (Tn.accB (fun i => meetF (Tn.bitT av am i) (Tn.bitT bv bm i) == 1) 64) (Tn.accB (fun i => meetF (Tn.bitT av am i) (Tn.bitT bv bm i) == 2) 64)).c0
      have e1 := (H2.out.set (Tn.accB (fun i => meetF (Tn.bitT av am i) (Tn.bitT bv bm i) == 1) 64) (Tn.accB (fun i => meetF (Tn.bitT av am i) (Tn.bitT bv bm i) == 2) 64)).c1
      go_wp2
      refine bodyPost_ret (by simp [results, Try.results11, go_sem, e0, e1]; try rfl) rfl ?_
      have ht : q = true := hq.out.2 fun i hi => HS.out i hi
      exact ⟨by rw [ht, (hy.out ht).1, (hy.out ht).2], (HG.out.set (by omega) _).set (by omega) _⟩

end Go.Proofs.Ytoomcnjpomdbpaa
