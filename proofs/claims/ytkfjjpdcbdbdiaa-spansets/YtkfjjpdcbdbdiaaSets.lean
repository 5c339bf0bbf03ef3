/- Towards the statements of package span (layer 4): what SpanSets asks, for every two spans, every two reaches, any number. -/
import Derived.Test.YtkfjjpdcbdbdiaaMeet
import Derived.Test.YtkfjjpdcbdbdiaaOrdM
import Derived.Test.YtkfjjpdcbdbdiaaRefS
import Derived.Test.YtkfjjpdcbdbdiaaWorks
import Derived.Deep.DeepCutAuto
namespace Go.Proofs.Ytkfjjpdcbdbdiaa
open Go.ChangeShapes Go.WideShapes Go.ChangeAt Go.RowKit
set_option linter.unusedVariables false
set_option maxRecDepth 20000

theorem in_r (al ah bl bh : Int) (r : Bool) (h : Hid ((decide (ah < al) || ((decide (bl ≤ al) && decide (al ≤ bh)) && (decide (bl ≤ ah) && decide (ah ≤ bh)))) = r)) (w : World) : Calls Try.prog 23 #[.agg #[.int .u64 al, .int .u64 ah], .agg #[.int .u64 bl, .int .u64 bh]] w fun e w' => e = .returned (.bool r) ∧ Gr w w' := by
  have h := h.out
  subst h
  exact in_any al ah bl bh w
theorem none_e (l h : Int) (b : Bool) (hb : decide (h < l) = b) (w : World) : Calls Try.prog 21 #[.agg #[.int .u64 l, .int .u64 h]] w fun e w' => e = .returned (.bool b) ∧ Gr w w' := by
  subst hb
  exact (none_u l h w).mono fun e w' ⟨he, hw⟩ => ⟨he, hw ▸ ⟨by go_grown, by go_grown⟩⟩
theorem nil_e (l h : Int) (b : Bool) (hb : decide (h < l) = b) (w : World) : Calls Try.prog 28 #[.agg #[.int .i64 l, .int .i64 h]] w fun e w' => e = .returned (.bool b) ∧ Gr w w' := by
  subst hb
  exact (none_s l h w).mono fun e w' ⟨he, hw⟩ => ⟨he, hw ▸ ⟨by go_grown, by go_grown⟩⟩
theorem rnone_e (l h : Int) (b : Bool) (hb : decide (h < l) = b) (w : World) : Calls Try.prog 20 #[.agg #[.int .u64 l, .int .u64 h]] w fun e w' => e = .returned (.bool b) ∧ Gr w w' := by
  subst hb
  exact (rnone_u l h w).mono fun e w' ⟨he, hw⟩ => ⟨he, hw ▸ ⟨by go_grown, by go_grown⟩⟩
theorem rnil_e (l h : Int) (b : Bool) (hb : decide (h < l) = b) (w : World) : Calls Try.prog 29 #[.agg #[.int .i64 l, .int .i64 h]] w fun e w' => e = .returned (.bool b) ∧ Gr w w' := by
  subst hb
  exact (rnone_s l h w).mono fun e w' ⟨he, hw⟩ => ⟨he, hw ▸ ⟨by go_grown, by go_grown⟩⟩
theorem has_e (l h x : Int) (b : Bool) (hb : (decide (l ≤ x) && decide (x ≤ h)) = b) (w : World) : Calls Try.prog 22 #[.agg #[.int .u64 l, .int .u64 h], .int .u64 x] w fun e w' => e = .returned (.bool b) ∧ Gr w w' := by
  subst hb
  exact (Has_u l h x w).mono fun e w' ⟨he, hw⟩ => ⟨he, hw ▸ ⟨by go_grown, by go_grown⟩⟩
theorem holds_e (l h x : Int) (b : Bool) (hb : (decide (l ≤ x) && decide (x ≤ h)) = b) (w : World) : Calls Try.prog 30 #[.agg #[.int .i64 l, .int .i64 h], .int .i64 x] w fun e w' => e = .returned (.bool b) ∧ Gr w w' := by
  subst hb
  exact (Has_s l h x w).mono fun e w' ⟨he, hw⟩ => ⟨he, hw ▸ ⟨by go_grown, by go_grown⟩⟩
theorem in_is {al ah bl bh : Int} {b : Bool} (h : b = true ↔ (ah < al ∨ (bl ≤ bh ∧ bl ≤ al ∧ ah ≤ bh))) : b = (decide (ah < al) || ((decide (bl ≤ al) && decide (al ≤ bh)) && (decide (bl ≤ ah) && decide (ah ≤ bh)))) := by
  rw [Bool.eq_iff_iff, h]
  simp only [Bool.or_eq_true, Bool.and_eq_true, decide_eq_true_eq]
  omega
set_option maxHeartbeats 16000000 in
theorem sets_any (al ah bl bh cl ch dl dh x : Int) (w : World) : Calls Try.prog 4 #[.agg #[.int .u64 al, .int .u64 ah], .agg #[.int .u64 bl, .int .u64 bh], .agg #[.int .i64 cl, .int .i64 ch], .agg #[.int .i64 dl, .int .i64 dh], .int .u64 x] w fun e w' => e = .returned (.bool true) ∧ Gr w w' := by
  obtain ⟨r, hr⟩ : ∃ r, (decide (ah < al) || ((decide (bl ≤ al) && decide (al ≤ bh)) && (decide (bl ≤ ah) && decide (ah ≤ bh)))) = r := ⟨_, rfl⟩
  have HR : Hid ((decide (ah < al) || ((decide (bl ≤ al) && decide (al ≤ bh)) && (decide (bl ≤ ah) && decide (ah ≤ bh)))) = r) := hr
  clear hr
  obtain ⟨B, hB⟩ : ∃ B, w.heap.size = B := ⟨_, rfl⟩
  have HA : Hid (At ((((w.alloc (.cells #[.int .u64 al, .int .u64 ah] 35)).alloc (.cells #[.int .u64 bl, .int .u64 bh] 35)).alloc (.cells #[.int .i64 cl, .int .i64 ch] 37)).alloc (.cells #[.int .i64 dl, .int .i64 dh] 37)) B (.int .u64 al) (.int .u64 ah) 35) := hB ▸ (((At.newb _ rfl _ _ _).alloc _).alloc _).alloc _
  have HB : Hid (At ((((w.alloc (.cells #[.int .u64 al, .int .u64 ah] 35)).alloc (.cells #[.int .u64 bl, .int .u64 bh] 35)).alloc (.cells #[.int .i64 cl, .int .i64 ch] 37)).alloc (.cells #[.int .i64 dl, .int .i64 dh] 37)) (B + 1) (.int .u64 bl) (.int .u64 bh) 35) := hB ▸ ((At.newb _ (by simp) _ _ _).alloc _).alloc _
  have HC : Hid (At ((((w.alloc (.cells #[.int .u64 al, .int .u64 ah] 35)).alloc (.cells #[.int .u64 bl, .int .u64 bh] 35)).alloc (.cells #[.int .i64 cl, .int .i64 ch] 37)).alloc (.cells #[.int .i64 dl, .int .i64 dh] 37)) (B + 1 + 1) (.int .i64 cl) (.int .i64 ch) 37) := hB ▸ (At.newb _ (by simp) _ _ _).alloc _
  have HD : Hid (At ((((w.alloc (.cells #[.int .u64 al, .int .u64 ah] 35)).alloc (.cells #[.int .u64 bl, .int .u64 bh] 35)).alloc (.cells #[.int .i64 cl, .int .i64 ch] 37)).alloc (.cells #[.int .i64 dl, .int .i64 dh] 37)) (B + 1 + 1 + 1) (.int .i64 dl) (.int .i64 dh) 37) := hB ▸ At.newb _ (by simp) _ _ _
  have HF : Hid (Gr w ((((w.alloc (.cells #[.int .u64 al, .int .u64 ah] 35)).alloc (.cells #[.int .u64 bl, .int .u64 bh] 35)).alloc (.cells #[.int .i64 cl, .int .i64 ch] 37)).alloc (.cells #[.int .i64 dl, .int .i64 dh] 37))) := (⟨by go_grown, by go_grown⟩ : Gr w _)
  go_enter Try.func4, Try.ntmps4
  go_upto_region 1 with fail
  go_cut [11] (fun v wx => v = .bool r ∧ At wx B (.int .u64 al) (.int .u64 ah) 35 ∧ At wx (B + 1) (.int .u64 bl) (.int .u64 bh) 35 ∧ At wx (B + 1 + 1) (.int .i64 cl) (.int .i64 ch) 37 ∧ At wx (B + 1 + 1 + 1) (.int .i64 dl) (.int .i64 dh) 37 ∧ Gr w wx)
  case first =>
    cases kA : decide (ah < al) <;> cases kB : decide (bh < bl) <;> cases p1 : decide (bl ≤ al) <;> cases p2 : decide (ah ≤ bh)
    all_goals
      go_wp2_with (first
        | (go_at_call 20; refine (rnone_u _ _ _).mono ?_; rintro e w' ⟨rfl, hw⟩; subst hw))
      go_meet
      case rel =>
        refine ⟨congrArg Value.bool ?_, HA.out.gr ⟨by go_grown, by go_grown⟩, HB.out.gr ⟨by go_grown, by go_grown⟩, HC.out.gr ⟨by go_grown, by go_grown⟩, HD.out.gr ⟨by go_grown, by go_grown⟩, HF.out.trans ⟨by go_grown, by go_grown⟩⟩
        simp only [decide_eq_true_eq, decide_eq_false_iff_not] at kA kB p1 p2
        rw [← HR.out]
        exact in_is (by simp only [true_iff, false_iff, Bool.false_eq_true]; omega)
  case rest =>
    obtain ⟨rfl, g1, g2, g3, g4, g5⟩ := hcut
    have HA : Hid (At wc B (.int .u64 al) (.int .u64 ah) 35) := g1
    have HB : Hid (At wc (B + 1) (.int .u64 bl) (.int .u64 bh) 35) := g2
    have HC : Hid (At wc (B + 1 + 1) (.int .i64 cl) (.int .i64 ch) 37) := g3
    have HD : Hid (At wc (B + 1 + 1 + 1) (.int .i64 dl) (.int .i64 dh) 37) := g4
    have HF : Hid (Gr w wc) := g5
    clear g1 g2 g3 g4 g5
    go_upto_region 3 with fail
    go_cut [13] (fun v wx => v = .bool true ∧ At wx B (.int .u64 al) (.int .u64 ah) 35 ∧ At wx (B + 1) (.int .u64 bl) (.int .u64 bh) 35 ∧ At wx (B + 1 + 1) (.int .i64 cl) (.int .i64 ch) 37 ∧ At wx (B + 1 + 1 + 1) (.int .i64 dl) (.int .i64 dh) 37 ∧ Gr w wx)
    case first =>
      obtain ⟨n1, hn1⟩ : ∃ b, decide (ah < al) = b := ⟨_, rfl⟩
      have a0 : ∀ p : GrBy wc, p.to.cell? ⟨B, 0, none⟩ = some (.int .u64 al) := fun p => ((HA.out).gr p.gr).c0
      have a1 : ∀ p : GrBy wc, p.to.cell? ⟨B, 1, none⟩ = some (.int .u64 ah) := fun p => ((HA.out).gr p.gr).c1
      have b0 : ∀ p : GrBy wc, p.to.cell? ⟨B + 1, 0, none⟩ = some (.int .u64 bl) := fun p => ((HB.out).gr p.gr).c0
      have b1 : ∀ p : GrBy wc, p.to.cell? ⟨B + 1, 1, none⟩ = some (.int .u64 bh) := fun p => ((HB.out).gr p.gr).c1

      cases d1 : decide (al ≤ x) <;> cases d2 : decide (x ≤ ah)
      · have hh : (decide (al ≤ x) && decide (x ≤ ah)) = false := by rw [d1, d2]; rfl
        have hne : Nonempty (GrBy wc) := ⟨⟨wc, Gr.refl wc⟩⟩
        obtain ⟨p', hp'⟩ : ∃ p : GrBy wc, p.to = wc := ⟨⟨wc, Gr.refl wc⟩, rfl⟩
        rw [← hp']
        clear hp'
        try simp only [List.append_eq, List.cons_append, List.nil_append]
        refine wp_region_by (by kernel_rfl) (by kernel_rfl) ?_
        repeat (first
          | go_big_quiet_skip
          | (go_big_quiet_want; go_big_quiet_op; first
            | go_big_quiet_on
            | (apply Exists.intro
               refine ⟨fun p => ?_, ?_⟩
               · first
                 | (go_at_call 21; exact calls_gr (none_e _ _ _ (by with_reducible assumption) _))
                 | (go_at_call 20; exact calls_gr (rnone_e _ _ _ (by with_reducible assumption) _))
                 | (go_at_call 22; exact calls_gr (has_e _ _ _ _ (by with_reducible assumption) _))
                 | (go_at_call 23; exact calls_gr (in_r _ _ _ _ _ HR _))
                 | (go_at_call 24; exact calls_gr (meet_u _ _ _ _ _))
                 | (go_at_call 25; exact calls_gr (rmeet_u _ _ _ _ _))
                 | (go_at_call 26; exact calls_gr (join_u _ _ _ _ _))
                 | (go_at_call 27; exact calls_gr (rjoin_u _ _ _ _ _))
               go_big_quiet_on)))
        refine wpQuiet_nil ?_
        intro _ hw'
        obtain ⟨q, rfl⟩ := hw'
        go_wp2_with fail
        go_meet
        case rel => exact ⟨rfl, HA.out.gr q.gr, HB.out.gr q.gr, HC.out.gr q.gr, HD.out.gr q.gr, HF.out.trans q.gr⟩
      · have hh : (decide (al ≤ x) && decide (x ≤ ah)) = false := by rw [d1, d2]; rfl
        have hne : Nonempty (GrBy wc) := ⟨⟨wc, Gr.refl wc⟩⟩
        obtain ⟨p', hp'⟩ : ∃ p : GrBy wc, p.to = wc := ⟨⟨wc, Gr.refl wc⟩, rfl⟩
        rw [← hp']
        clear hp'
        try simp only [List.append_eq, List.cons_append, List.nil_append]
        refine wp_region_by (by kernel_rfl) (by kernel_rfl) ?_
        repeat (first
          | go_big_quiet_skip
          | (go_big_quiet_want; go_big_quiet_op; first
            | go_big_quiet_on
            | (apply Exists.intro
               refine ⟨fun p => ?_, ?_⟩
               · first
                 | (go_at_call 21; exact calls_gr (none_e _ _ _ (by with_reducible assumption) _))
                 | (go_at_call 20; exact calls_gr (rnone_e _ _ _ (by with_reducible assumption) _))
                 | (go_at_call 22; exact calls_gr (has_e _ _ _ _ (by with_reducible assumption) _))
                 | (go_at_call 23; exact calls_gr (in_r _ _ _ _ _ HR _))
                 | (go_at_call 24; exact calls_gr (meet_u _ _ _ _ _))
                 | (go_at_call 25; exact calls_gr (rmeet_u _ _ _ _ _))
                 | (go_at_call 26; exact calls_gr (join_u _ _ _ _ _))
                 | (go_at_call 27; exact calls_gr (rjoin_u _ _ _ _ _))
               go_big_quiet_on)))
        refine wpQuiet_nil ?_
        intro _ hw'
        obtain ⟨q, rfl⟩ := hw'
        go_wp2_with fail
        go_meet
        case rel => exact ⟨rfl, HA.out.gr q.gr, HB.out.gr q.gr, HC.out.gr q.gr, HD.out.gr q.gr, HF.out.trans q.gr⟩
      · have hh : (decide (al ≤ x) && decide (x ≤ ah)) = false := by rw [d1, d2]; rfl
        have hne : Nonempty (GrBy wc) := ⟨⟨wc, Gr.refl wc⟩⟩
        obtain ⟨p', hp'⟩ : ∃ p : GrBy wc, p.to = wc := ⟨⟨wc, Gr.refl wc⟩, rfl⟩
        rw [← hp']
        clear hp'
        try simp only [List.append_eq, List.cons_append, List.nil_append]
        refine wp_region_by (by kernel_rfl) (by kernel_rfl) ?_
        repeat (first
          | go_big_quiet_skip
          | (go_big_quiet_want; go_big_quiet_op; first
            | go_big_quiet_on
            | (apply Exists.intro
               refine ⟨fun p => ?_, ?_⟩
               · first
                 | (go_at_call 21; exact calls_gr (none_e _ _ _ (by with_reducible assumption) _))
                 | (go_at_call 20; exact calls_gr (rnone_e _ _ _ (by with_reducible assumption) _))
                 | (go_at_call 22; exact calls_gr (has_e _ _ _ _ (by with_reducible assumption) _))
                 | (go_at_call 23; exact calls_gr (in_r _ _ _ _ _ HR _))
                 | (go_at_call 24; exact calls_gr (meet_u _ _ _ _ _))
                 | (go_at_call 25; exact calls_gr (rmeet_u _ _ _ _ _))
                 | (go_at_call 26; exact calls_gr (join_u _ _ _ _ _))
                 | (go_at_call 27; exact calls_gr (rjoin_u _ _ _ _ _))
               go_big_quiet_on)))
        refine wpQuiet_nil ?_
        intro _ hw'
        obtain ⟨q, rfl⟩ := hw'
        go_wp2_with fail
        go_meet
        case rel => exact ⟨rfl, HA.out.gr q.gr, HB.out.gr q.gr, HC.out.gr q.gr, HD.out.gr q.gr, HF.out.trans q.gr⟩
      · have hh : (decide (al ≤ x) && decide (x ≤ ah)) = true := by rw [d1, d2]; rfl
        have hne : Nonempty (GrBy wc) := ⟨⟨wc, Gr.refl wc⟩⟩
        obtain ⟨p', hp'⟩ : ∃ p : GrBy wc, p.to = wc := ⟨⟨wc, Gr.refl wc⟩, rfl⟩
        rw [← hp']
        clear hp'
        try simp only [List.append_eq, List.cons_append, List.nil_append]
        refine wp_region_by (by kernel_rfl) (by kernel_rfl) ?_
        repeat (first
          | go_big_quiet_skip
          | (go_big_quiet_want; go_big_quiet_op; first
            | go_big_quiet_on
            | (apply Exists.intro
               refine ⟨fun p => ?_, ?_⟩
               · first
                 | (go_at_call 21; exact calls_gr (none_e _ _ _ (by with_reducible assumption) _))
                 | (go_at_call 20; exact calls_gr (rnone_e _ _ _ (by with_reducible assumption) _))
                 | (go_at_call 22; exact calls_gr (has_e _ _ _ _ (by with_reducible assumption) _))
                 | (go_at_call 23; exact calls_gr (in_r _ _ _ _ _ HR _))
                 | (go_at_call 24; exact calls_gr (meet_u _ _ _ _ _))
                 | (go_at_call 25; exact calls_gr (rmeet_u _ _ _ _ _))
                 | (go_at_call 26; exact calls_gr (join_u _ _ _ _ _))
                 | (go_at_call 27; exact calls_gr (rjoin_u _ _ _ _ _))
               go_big_quiet_on)))
        refine wpQuiet_nil ?_
        intro _ hw'
        obtain ⟨q, rfl⟩ := hw'
        go_wp2_with fail
        go_meet
        case rel => exact ⟨rfl, HA.out.gr q.gr, HB.out.gr q.gr, HC.out.gr q.gr, HD.out.gr q.gr, HF.out.trans q.gr⟩
    case rest =>
      obtain ⟨rfl, g1, g2, g3, g4, g5⟩ := hcut
      have HA : Hid (At wc B (.int .u64 al) (.int .u64 ah) 35) := g1
      have HB : Hid (At wc (B + 1) (.int .u64 bl) (.int .u64 bh) 35) := g2
      have HC : Hid (At wc (B + 1 + 1) (.int .i64 cl) (.int .i64 ch) 37) := g3
      have HD : Hid (At wc (B + 1 + 1 + 1) (.int .i64 dl) (.int .i64 dh) 37) := g4
      have HF : Hid (Gr w wc) := g5
      clear g1 g2 g3 g4 g5
      go_upto_region 4 with fail
      revert HR
      generalize wrap64 x = y
      intro HR
      go_cut [14] (fun v wx => v = .bool true ∧ At wx B (.int .u64 al) (.int .u64 ah) 35 ∧ At wx (B + 1) (.int .u64 bl) (.int .u64 bh) 35 ∧ At wx (B + 1 + 1) (.int .i64 cl) (.int .i64 ch) 37 ∧ At wx (B + 1 + 1 + 1) (.int .i64 dl) (.int .i64 dh) 37 ∧ Gr w wx)
      case first =>
        obtain ⟨n1, hn1⟩ : ∃ b, decide (ch < cl) = b := ⟨_, rfl⟩
        have c0 : ∀ p : GrBy wc, p.to.cell? ⟨B + 1 + 1, 0, none⟩ = some (.int .i64 cl) := fun p => ((HC.out).gr p.gr).c0
        have c1 : ∀ p : GrBy wc, p.to.cell? ⟨B + 1 + 1, 1, none⟩ = some (.int .i64 ch) := fun p => ((HC.out).gr p.gr).c1
        have d0 : ∀ p : GrBy wc, p.to.cell? ⟨B + 1 + 1 + 1, 0, none⟩ = some (.int .i64 dl) := fun p => ((HD.out).gr p.gr).c0
        have d1 : ∀ p : GrBy wc, p.to.cell? ⟨B + 1 + 1 + 1, 1, none⟩ = some (.int .i64 dh) := fun p => ((HD.out).gr p.gr).c1

        cases d1 : decide (cl ≤ y) <;> cases d2 : decide (y ≤ ch)
        · have hh : (decide (cl ≤ y) && decide (y ≤ ch)) = false := by rw [d1, d2]; rfl
          have hne : Nonempty (GrBy wc) := ⟨⟨wc, Gr.refl wc⟩⟩
          obtain ⟨p', hp'⟩ : ∃ p : GrBy wc, p.to = wc := ⟨⟨wc, Gr.refl wc⟩, rfl⟩
          rw [← hp']
          clear hp'
          try simp only [List.append_eq, List.cons_append, List.nil_append]
          refine wp_region_by (by kernel_rfl) (by kernel_rfl) ?_
          repeat (first
            | go_big_quiet_skip
            | (go_big_quiet_want; go_big_quiet_op; first
              | go_big_quiet_on
              | (apply Exists.intro
                 refine ⟨fun p => ?_, ?_⟩
                 · first
                   | (go_at_call 28; exact calls_gr (nil_e _ _ _ (by with_reducible assumption) _))
                   | (go_at_call 29; exact calls_gr (rnil_e _ _ _ (by with_reducible assumption) _))
                   | (go_at_call 30; exact calls_gr (holds_e _ _ _ _ (by with_reducible assumption) _))
                   | (go_at_call 31; exact calls_gr (meet_s _ _ _ _ _))
                   | (go_at_call 32; exact calls_gr (rmeet_s _ _ _ _ _))
                   | (go_at_call 33; exact calls_gr (join_s _ _ _ _ _))
                   | (go_at_call 34; exact calls_gr (rjoin_s _ _ _ _ _))
                 go_big_quiet_on)))
          refine wpQuiet_nil ?_
          intro _ hw'
          obtain ⟨q, rfl⟩ := hw'
          go_wp2_with fail
          go_meet
          case rel => exact ⟨rfl, HA.out.gr q.gr, HB.out.gr q.gr, HC.out.gr q.gr, HD.out.gr q.gr, HF.out.trans q.gr⟩
        · have hh : (decide (cl ≤ y) && decide (y ≤ ch)) = false := by rw [d1, d2]; rfl
          have hne : Nonempty (GrBy wc) := ⟨⟨wc, Gr.refl wc⟩⟩
          obtain ⟨p', hp'⟩ : ∃ p : GrBy wc, p.to = wc := ⟨⟨wc, Gr.refl wc⟩, rfl⟩
          rw [← hp']
          clear hp'
          try simp only [List.append_eq, List.cons_append, List.nil_append]
          refine wp_region_by (by kernel_rfl) (by kernel_rfl) ?_
          repeat (first
            | go_big_quiet_skip
            | (go_big_quiet_want; go_big_quiet_op; first
              | go_big_quiet_on
              | (apply Exists.intro
                 refine ⟨fun p => ?_, ?_⟩
                 · first
                   | (go_at_call 28; exact calls_gr (nil_e _ _ _ (by with_reducible assumption) _))
                   | (go_at_call 29; exact calls_gr (rnil_e _ _ _ (by with_reducible assumption) _))
                   | (go_at_call 30; exact calls_gr (holds_e _ _ _ _ (by with_reducible assumption) _))
                   | (go_at_call 31; exact calls_gr (meet_s _ _ _ _ _))
                   | (go_at_call 32; exact calls_gr (rmeet_s _ _ _ _ _))
                   | (go_at_call 33; exact calls_gr (join_s _ _ _ _ _))
                   | (go_at_call 34; exact calls_gr (rjoin_s _ _ _ _ _))
                 go_big_quiet_on)))
          refine wpQuiet_nil ?_
          intro _ hw'
          obtain ⟨q, rfl⟩ := hw'
          go_wp2_with fail
          go_meet
          case rel => exact ⟨rfl, HA.out.gr q.gr, HB.out.gr q.gr, HC.out.gr q.gr, HD.out.gr q.gr, HF.out.trans q.gr⟩
        · have hh : (decide (cl ≤ y) && decide (y ≤ ch)) = false := by rw [d1, d2]; rfl
          have hne : Nonempty (GrBy wc) := ⟨⟨wc, Gr.refl wc⟩⟩
          obtain ⟨p', hp'⟩ : ∃ p : GrBy wc, p.to = wc := ⟨⟨wc, Gr.refl wc⟩, rfl⟩
          rw [← hp']
          clear hp'
          try simp only [List.append_eq, List.cons_append, List.nil_append]
          refine wp_region_by (by kernel_rfl) (by kernel_rfl) ?_
          repeat (first
            | go_big_quiet_skip
            | (go_big_quiet_want; go_big_quiet_op; first
              | go_big_quiet_on
              | (apply Exists.intro
                 refine ⟨fun p => ?_, ?_⟩
                 · first
                   | (go_at_call 28; exact calls_gr (nil_e _ _ _ (by with_reducible assumption) _))
                   | (go_at_call 29; exact calls_gr (rnil_e _ _ _ (by with_reducible assumption) _))
                   | (go_at_call 30; exact calls_gr (holds_e _ _ _ _ (by with_reducible assumption) _))
                   | (go_at_call 31; exact calls_gr (meet_s _ _ _ _ _))
                   | (go_at_call 32; exact calls_gr (rmeet_s _ _ _ _ _))
                   | (go_at_call 33; exact calls_gr (join_s _ _ _ _ _))
                   | (go_at_call 34; exact calls_gr (rjoin_s _ _ _ _ _))
                 go_big_quiet_on)))
          refine wpQuiet_nil ?_
          intro _ hw'
          obtain ⟨q, rfl⟩ := hw'
          go_wp2_with fail
          go_meet
          case rel => exact ⟨rfl, HA.out.gr q.gr, HB.out.gr q.gr, HC.out.gr q.gr, HD.out.gr q.gr, HF.out.trans q.gr⟩
        · have hh : (decide (cl ≤ y) && decide (y ≤ ch)) = true := by rw [d1, d2]; rfl
          have hne : Nonempty (GrBy wc) := ⟨⟨wc, Gr.refl wc⟩⟩
          obtain ⟨p', hp'⟩ : ∃ p : GrBy wc, p.to = wc := ⟨⟨wc, Gr.refl wc⟩, rfl⟩
          rw [← hp']
          clear hp'
          try simp only [List.append_eq, List.cons_append, List.nil_append]
          refine wp_region_by (by kernel_rfl) (by kernel_rfl) ?_
          repeat (first
            | go_big_quiet_skip
            | (go_big_quiet_want; go_big_quiet_op; first
              | go_big_quiet_on
              | (apply Exists.intro
                 refine ⟨fun p => ?_, ?_⟩
                 · first
                   | (go_at_call 28; exact calls_gr (nil_e _ _ _ (by with_reducible assumption) _))
                   | (go_at_call 29; exact calls_gr (rnil_e _ _ _ (by with_reducible assumption) _))
                   | (go_at_call 30; exact calls_gr (holds_e _ _ _ _ (by with_reducible assumption) _))
                   | (go_at_call 31; exact calls_gr (meet_s _ _ _ _ _))
                   | (go_at_call 32; exact calls_gr (rmeet_s _ _ _ _ _))
                   | (go_at_call 33; exact calls_gr (join_s _ _ _ _ _))
                   | (go_at_call 34; exact calls_gr (rjoin_s _ _ _ _ _))
                 go_big_quiet_on)))
          refine wpQuiet_nil ?_
          intro _ hw'
          obtain ⟨q, rfl⟩ := hw'
          go_wp2_with fail
          go_meet
          case rel => exact ⟨rfl, HA.out.gr q.gr, HB.out.gr q.gr, HC.out.gr q.gr, HD.out.gr q.gr, HF.out.trans q.gr⟩
      case rest =>
        obtain ⟨rfl, g1, g2, g3, g4, g5⟩ := hcut
        have HA : Hid (At wc B (.int .u64 al) (.int .u64 ah) 35) := g1
        have HB : Hid (At wc (B + 1) (.int .u64 bl) (.int .u64 bh) 35) := g2
        have HC : Hid (At wc (B + 1 + 1) (.int .i64 cl) (.int .i64 ch) 37) := g3
        have HD : Hid (At wc (B + 1 + 1 + 1) (.int .i64 dl) (.int .i64 dh) 37) := g4
        have HF : Hid (Gr w wc) := g5
        clear g1 g2 g3 g4 g5
        go_wp2_with (first
          | (go_at_call 35; refine (works_any _).mono ?_; rintro e w' ⟨rfl, hg⟩))
        go_ret
        exact ⟨rfl, HF.out.trans hg⟩
end Go.Proofs.Ytkfjjpdcbdbdiaa
