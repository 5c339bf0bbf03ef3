/- Towards the statements of package span (layer 4): what SpanOrder asks, for any two numbers, whatever lies about them, any shift. -/
import Derived.Test.YtkfjjpdcbdbdiabOrdM
import Derived.Test.YtkfjjpdcbdbdiabOrdX
import Derived.Test.YtkfjjpdcbdbdiabMeet
import Derived.Test.YtkfjjpdcbdbdiabRound
import Derived.Test.YtkfjjpdcbdbdiabWorks
import Derived.Deep.DeepCutAuto
namespace Go.Proofs.Ytkfjjpdcbdbdiab
open Go.ChangeShapes Go.WideShapes Go.ChangeAt Go.RowKit
set_option linter.unusedVariables false
set_option maxRecDepth 20000

theorem round_e' (x p q l h : Int) (hx : InU x) (hp : InU p) (hq : InU q) (e1 : x - min x p = l) (e2 : x + min (18446744073709551615 - x) q = h) (w : World) : Calls Try.prog 25 #[.int .u64 x, .int .u64 p, .int .u64 q] w fun e w' => e = .returned (.agg #[.int .u64 l, .int .u64 h]) ∧ Gr w w' := by
  subst e1 e2
  exact round_any x p q hx hp hq w
theorem part_u' (p : Int) (hp : InU p) (k : Int) (hk : 0 < k) : InU (p / k) := by
  unfold InU at *
  exact ⟨Int.ediv_nonneg hp.1 (by omega), Int.le_trans (Int.ediv_le_self _ hp.1) hp.2⟩
set_option maxHeartbeats 16000000 in
theorem order_y (x y p q u v : Int) (hx : InU x) (hy : InU y) (hp : InU p) (hq : InU q) (hu : InU u) (hv : InU v) (n : Nat) (hn : n < 256) (hz : ¬ min (x + min (18446744073709551615 - x) q) (y + min (18446744073709551615 - y) v) < max (x - min x p) (y - min y u)) (w : World) : Calls Try.prog 4 #[.int .u64 x, .int .u64 y, .int .u64 p, .int .u64 q, .int .u64 u, .int .u64 v, .int .u8 (n : Int)] w fun e w' => e = .returned (.bool true) ∧ Gr w w' := by
  obtain ⟨al, e1⟩ : ∃ z, x - min x p = z := ⟨_, rfl⟩
  obtain ⟨ah, e2⟩ : ∃ z, x + min (18446744073709551615 - x) q = z := ⟨_, rfl⟩
  obtain ⟨bl, e3⟩ : ∃ z, y - min y u = z := ⟨_, rfl⟩
  obtain ⟨bh, e4⟩ : ∃ z, y + min (18446744073709551615 - y) v = z := ⟨_, rfl⟩
  rw [e1, e2, e3, e4] at hz
  have HZ : Hid (max al bl ≤ min ah bh) := (Int.not_lt.1 hz)
  clear hz
  have j1 := part_u' p hp 2 (by omega)
  have j2 := part_u' q hq 3 (by omega)
  have j3 := part_u' u hu 3 (by omega)
  have j4 := part_u' v hv 2 (by omega)
  obtain ⟨p2, f1⟩ : ∃ z, p / 2 = z := ⟨_, rfl⟩
  obtain ⟨q3, f2⟩ : ∃ z, q / 3 = z := ⟨_, rfl⟩
  obtain ⟨u3, f3⟩ : ∃ z, u / 3 = z := ⟨_, rfl⟩
  obtain ⟨v2, f4⟩ : ∃ z, v / 2 = z := ⟨_, rfl⟩
  rw [f1] at j1
  rw [f2] at j2
  rw [f3] at j3
  rw [f4] at j4
  obtain ⟨cl, e5⟩ : ∃ z, x - min x p2 = z := ⟨_, rfl⟩
  obtain ⟨ch, e6⟩ : ∃ z, x + min (18446744073709551615 - x) q3 = z := ⟨_, rfl⟩
  obtain ⟨dl, e7⟩ : ∃ z, y - min y u3 = z := ⟨_, rfl⟩
  obtain ⟨dh, e8⟩ : ∃ z, y + min (18446744073709551615 - y) v2 = z := ⟨_, rfl⟩
  have i0 : InU al := by unfold InU at *; omega
  have i1 : InU ah := by unfold InU at *; omega
  have i2 : InU bl := by unfold InU at *; omega
  have i3 : InU bh := by unfold InU at *; omega
  have i4 : InU cl := by unfold InU at *; omega
  have i5 : InU ch := by unfold InU at *; omega
  have i6 : InU dl := by unfold InU at *; omega
  have i7 : InU dh := by unfold InU at *; omega
  have HO1 : Hid (al ≤ cl) := (show al ≤ cl by unfold InU at *; omega)
  have HO2 : Hid (cl ≤ ch) := (show cl ≤ ch by unfold InU at *; omega)
  have HO3 : Hid (ch ≤ ah) := (show ch ≤ ah by unfold InU at *; omega)
  have HO4 : Hid (bl ≤ dl) := (show bl ≤ dl by unfold InU at *; omega)
  have HO5 : Hid (dl ≤ dh) := (show dl ≤ dh by unfold InU at *; omega)
  have HO6 : Hid (dh ≤ bh) := (show dh ≤ bh by unfold InU at *; omega)
  have HN1 : Hid (al ≤ ah) := Int.le_trans HO1.out (Int.le_trans HO2.out HO3.out)
  have HN2 : Hid (bl ≤ bh) := Int.le_trans HO4.out (Int.le_trans HO5.out HO6.out)
  have t1 : p.tdiv 2 = p / 2 := Int.tdiv_eq_ediv_of_nonneg hp.1
  have t2 : q.tdiv 3 = q / 3 := Int.tdiv_eq_ediv_of_nonneg hq.1
  have t3 : u.tdiv 3 = u / 3 := Int.tdiv_eq_ediv_of_nonneg hu.1
  have t4 : v.tdiv 2 = v / 2 := Int.tdiv_eq_ediv_of_nonneg hv.1
  have s1 := wrap_inU j1
  have s2 := wrap_inU j2
  have s3 := wrap_inU j3
  have s4 := wrap_inU j4
  have E1 : Hid _ := e1
  have E2 : Hid _ := e2
  have E3 : Hid _ := e3
  have E4 : Hid _ := e4
  have E5 : Hid _ := e5
  have E6 : Hid _ := e6
  have E7 : Hid _ := e7
  have E8 : Hid _ := e8
  clear e1 e2 e3 e4 e5 e6 e7 e8
  go_enter Try.func4, Try.ntmps4
  go_wp2_with (first
    | (go_at_call_of 25 (Value.int IntKind.u64 p); refine (round_e' _ _ _ _ _ hx hp hq E1.out E2.out _).mono ?_; rintro e w1 ⟨rfl, g1⟩)
    | (go_at_call_of 25 (Value.int IntKind.u64 u); refine (round_e' _ _ _ _ _ hy hu hv E3.out E4.out _).mono ?_; rintro e w2 ⟨rfl, g2⟩)
    | (go_at_call_of 25 (Value.int IntKind.u64 p2); refine (round_e' _ _ _ _ _ hx j1 j2 E5.out E6.out _).mono ?_; rintro e w3 ⟨rfl, g3⟩)
    | (go_at_call_of 25 (Value.int IntKind.u64 u3); refine (round_e' _ _ _ _ _ hy j3 j4 E7.out E8.out _).mono ?_; rintro e w4 ⟨rfl, g4⟩))
  have HA : Hid (At ((w4.alloc (.cells #[.int .u64 cl, .int .u64 ch] 24)).alloc (.cells #[.int .u64 dl, .int .u64 dh] 24)) w2.heap.size (.int .u64 al) (.int .u64 ah) 24) := (((((At.newb w2 rfl _ _ _).alloc _).gr g3).gr g4).alloc _).alloc _
  have HB : Hid (At ((w4.alloc (.cells #[.int .u64 cl, .int .u64 ch] 24)).alloc (.cells #[.int .u64 dl, .int .u64 dh] 24)) (w2.heap.size + 1) (.int .u64 bl) (.int .u64 bh) 24) := ((((At.newb (w2.alloc (.cells #[.int .u64 al, .int .u64 ah] 24)) (by simp) _ _ _).gr g3).gr g4).alloc _).alloc _
  have HC : Hid (At ((w4.alloc (.cells #[.int .u64 cl, .int .u64 ch] 24)).alloc (.cells #[.int .u64 dl, .int .u64 dh] 24)) w4.heap.size (.int .u64 cl) (.int .u64 ch) 24) := (At.newb _ rfl _ _ _).alloc _
  have HD : Hid (At ((w4.alloc (.cells #[.int .u64 cl, .int .u64 ch] 24)).alloc (.cells #[.int .u64 dl, .int .u64 dh] 24)) (w4.heap.size + 1) (.int .u64 dl) (.int .u64 dh) 24) := At.newb _ (by simp) _ _ _
  have HF : Hid (Gr w ((w4.alloc (.cells #[.int .u64 cl, .int .u64 ch] 24)).alloc (.cells #[.int .u64 dl, .int .u64 dh] 24))) := (((((((g1.trans g2).alloc _ _).alloc _ _).trans g3).trans g4).alloc _ _).alloc _ _)
  clear g1 g2 g3 g4 E1 E2 E3 E4 E5 E6 E7 E8 t1 t2 t3 t4 s1 s2 s3 s4
  revert HA HB HC HD HF
  generalize ((w4.alloc (.cells #[.int .u64 cl, .int .u64 ch] 24)).alloc (.cells #[.int .u64 dl, .int .u64 dh] 24)) = W
  generalize w2.heap.size = A
  generalize w4.heap.size = C
  intro HA HB HC HD HF
  have hne : Nonempty (GrBy W) := ⟨⟨W, Gr.refl W⟩⟩
  have a0 : ∀ p : GrBy W, p.to.cell? ⟨A, 0, none⟩ = some (.int .u64 al) := fun p => (HA.out.gr p.gr).c0
  have a1 : ∀ p : GrBy W, p.to.cell? ⟨A, 1, none⟩ = some (.int .u64 ah) := fun p => (HA.out.gr p.gr).c1
  have b0 : ∀ p : GrBy W, p.to.cell? ⟨A + 1, 0, none⟩ = some (.int .u64 bl) := fun p => (HB.out.gr p.gr).c0
  have b1 : ∀ p : GrBy W, p.to.cell? ⟨A + 1, 1, none⟩ = some (.int .u64 bh) := fun p => (HB.out.gr p.gr).c1
  have c0 : ∀ p : GrBy W, p.to.cell? ⟨C, 0, none⟩ = some (.int .u64 cl) := fun p => (HC.out.gr p.gr).c0
  have c1 : ∀ p : GrBy W, p.to.cell? ⟨C, 1, none⟩ = some (.int .u64 ch) := fun p => (HC.out.gr p.gr).c1
  have d0 : ∀ p : GrBy W, p.to.cell? ⟨C + 1, 0, none⟩ = some (.int .u64 dl) := fun p => (HD.out.gr p.gr).c0
  have d1 : ∀ p : GrBy W, p.to.cell? ⟨C + 1, 1, none⟩ = some (.int .u64 dh) := fun p => (HD.out.gr p.gr).c1
  obtain ⟨p', hp'⟩ : ∃ p : GrBy W, p.to = W := ⟨⟨W, Gr.refl W⟩, rfl⟩
  rw [← hp']
  clear hp'
  have k1 := in_yes HO1.out HO2.out HO3.out
  have k2 := in_yes HO4.out HO5.out HO6.out
  have k3 := add_mono i0 i1 i2 i3 HO1.out HO2.out HO3.out HO4.out HO5.out HO6.out
  have k4 := sub_mono i0 i1 i2 i3 HO1.out HO2.out HO3.out HO4.out HO5.out HO6.out
  have k5 := mul_mono i0 i1 i2 i3 HO1.out HO2.out HO3.out HO4.out HO5.out HO6.out
  have k6 := shl_mono i0 i1 n HO1.out HO2.out HO3.out
  have k7 := shr_mono n HO1.out HO2.out HO3.out
  try simp only [List.append_eq, List.cons_append, List.nil_append]
  refine wp_region_by (by kernel_rfl) (by kernel_rfl) ?_
  repeat (first
    | go_big_quiet_skip
    | (go_big_quiet_want; go_big_quiet_op; first
      | go_big_quiet_on
      | (apply Exists.intro
         refine ⟨fun p => ?_, ?_⟩
         · first
           | (go_at_call 24; exact calls_gr (in_e _ _ _ _ _ (by with_reducible assumption) _))
           | (go_at_call 6; exact calls_gr (add_any _ _ _ _ (by with_reducible assumption) (by with_reducible assumption) (by with_reducible assumption) (by with_reducible assumption) _))
           | (go_at_call 7; exact calls_gr (sub_any _ _ _ _ (by with_reducible assumption) (by with_reducible assumption) (by with_reducible assumption) (by with_reducible assumption) _))
           | (go_at_call 8; exact calls_gr (mul_any _ _ _ _ (by with_reducible assumption) (by with_reducible assumption) (by with_reducible assumption) (by with_reducible assumption) _))
           | (go_at_call 11; exact calls_gr (shl_any _ _ (by with_reducible assumption) (by with_reducible assumption) _ _))
           | (go_at_call 12; exact calls_gr (shr_any _ _ (by with_reducible assumption) (by with_reducible assumption) _ _))
         go_big_quiet_on)))
  refine wpQuiet_nil ?_
  intro _ hw'
  obtain ⟨q1, rfl⟩ := hw'
  clear k1 k2 k3 k4 k5 k6 k7
  go_upto_region 6 with fail
  have HA' : Hid (At q1.to A (.int .u64 al) (.int .u64 ah) 24) := HA.out.gr q1.gr
  have HB' : Hid (At q1.to (A + 1) (.int .u64 bl) (.int .u64 bh) 24) := HB.out.gr q1.gr
  have HC' : Hid (At q1.to (C) (.int .u64 cl) (.int .u64 ch) 24) := HC.out.gr q1.gr
  have HD' : Hid (At q1.to (C + 1) (.int .u64 dl) (.int .u64 dh) 24) := HD.out.gr q1.gr
  have HF' : Hid (Gr w q1.to) := HF.out.trans q1.gr
  clear HA HB HC HD HF a0 a1 b0 b1 c0 c1 d0 d1
  revert HA' HB' HC' HD' HF'
  generalize q1.to = V
  intro HA HB HC HD HF
  have a0 := At.c0 HA.out
  have a1 := At.c1 HA.out
  have b0 := At.c0 HB.out
  have b1 := At.c1 HB.out
  have hlt : A + 1 < V.heap.size := At.lt HB.out
  · skip
    go_cut [20, 21] (fun c d wx => ∃ bc bd, c = .pointer (some ⟨bc, 0, none⟩) ∧ d = .pointer (some ⟨bd, 0, none⟩) ∧ At wx A (.int .u64 al) (.int .u64 ah) 24 ∧ At wx (A + 1) (.int .u64 bl) (.int .u64 bh) 24 ∧ At wx C (.int .u64 cl) (.int .u64 ch) 24 ∧ At wx (C + 1) (.int .u64 dl) (.int .u64 dh) 24 ∧ At wx bc (.int .u64 (max al bl)) (.int .u64 (min ah bh)) 24 ∧ At wx bd (.int .u64 (min al bl)) (.int .u64 (max ah bh)) 24 ∧ Gr w wx)
    case first =>
      go_region_held3 (fun w' => w'.cell? ⟨A, 0, none⟩ = some (.int .u64 al) ∧ w'.cell? ⟨A, 1, none⟩ = some (.int .u64 ah) ∧ w'.cell? ⟨A + 1, 0, none⟩ = some (.int .u64 bl) ∧ w'.cell? ⟨A + 1, 1, none⟩ = some (.int .u64 bh)) ((refine ⟨?_, ?_, ?_, ?_⟩ <;> repeat (with_reducible (first | assumption | apply cell_al | apply cell_dr | (refine cell_st (by simp <;> omega) ?_)))))
        (first
        | (go_at_call 13; refine (meet_y _ _ _ _ (Int.not_lt.2 HZ.out) _).mono ?_; rintro e w'' ⟨rfl, hw⟩; subst hw)
        | (go_at_call 22; refine (join_y _ _ _ _ HN1.out HN2.out _).mono ?_; rintro e w'' ⟨rfl, hw⟩; subst hw))
      all_goals go_wp2_with fail
      all_goals go_meet
      all_goals
        case rel =>
          refine ⟨_, _, rfl, rfl, ?_, ?_, ?_, ?_, ?_, ?_, ?_⟩
          · repeat (with_reducible (first | exact HA.out | apply At.drew | apply At.alloc))
          · repeat (with_reducible (first | exact HB.out | apply At.drew | apply At.alloc))
          · repeat (with_reducible (first | exact HC.out | apply At.drew | apply At.alloc))
          · repeat (with_reducible (first | exact HD.out | apply At.drew | apply At.alloc))
          · repeat (first | (with_reducible apply At.drew) | (with_reducible refine At.newb _ ?_ _ _ _; simp; done) | (with_reducible apply At.alloc))
          · repeat (first | (with_reducible apply At.drew) | (with_reducible refine At.newb _ ?_ _ _ _; simp; done) | (with_reducible apply At.alloc))
          · repeat (with_reducible (first | exact HF.out | apply Gr.drew | apply Gr.alloc))
    case rest =>
      obtain ⟨bc, bd, rfl, rfl, g1, g2, g3, g4, g5, g6, g7⟩ := hcut
      have HA3 : Hid _ := g1
      have HB3 : Hid _ := g2
      have HC3 : Hid _ := g3
      have HD3 : Hid _ := g4
      have HM3 : Hid _ := g5
      have HJ3 : Hid _ := g6
      have HF3 : Hid (Gr w wc) := g7
      clear g1 g2 g3 g4 g5 g6 g7 HA HB HC HD HF a0 a1 b0 b1
      have hne3 : Nonempty (GrBy wc) := ⟨⟨wc, Gr.refl wc⟩⟩
      have a0 : ∀ p : GrBy wc, p.to.cell? ⟨A, 0, none⟩ = some (.int .u64 al) := fun p => (At.gr HA3.out p.gr).c0
      have a1 : ∀ p : GrBy wc, p.to.cell? ⟨A, 1, none⟩ = some (.int .u64 ah) := fun p => (At.gr HA3.out p.gr).c1
      have b0 : ∀ p : GrBy wc, p.to.cell? ⟨A + 1, 0, none⟩ = some (.int .u64 bl) := fun p => (At.gr HB3.out p.gr).c0
      have b1 : ∀ p : GrBy wc, p.to.cell? ⟨A + 1, 1, none⟩ = some (.int .u64 bh) := fun p => (At.gr HB3.out p.gr).c1
      have c0 : ∀ p : GrBy wc, p.to.cell? ⟨C, 0, none⟩ = some (.int .u64 cl) := fun p => (At.gr HC3.out p.gr).c0
      have c1 : ∀ p : GrBy wc, p.to.cell? ⟨C, 1, none⟩ = some (.int .u64 ch) := fun p => (At.gr HC3.out p.gr).c1
      have d0 : ∀ p : GrBy wc, p.to.cell? ⟨C + 1, 0, none⟩ = some (.int .u64 dl) := fun p => (At.gr HD3.out p.gr).c0
      have d1 : ∀ p : GrBy wc, p.to.cell? ⟨C + 1, 1, none⟩ = some (.int .u64 dh) := fun p => (At.gr HD3.out p.gr).c1
      have m0 : ∀ p : GrBy wc, p.to.cell? ⟨bc, 0, none⟩ = some (.int .u64 (max al bl)) := fun p => (At.gr HM3.out p.gr).c0
      have m1 : ∀ p : GrBy wc, p.to.cell? ⟨bc, 1, none⟩ = some (.int .u64 (min ah bh)) := fun p => (At.gr HM3.out p.gr).c1
      have j0 : ∀ p : GrBy wc, p.to.cell? ⟨bd, 0, none⟩ = some (.int .u64 (min al bl)) := fun p => (At.gr HJ3.out p.gr).c0
      have j1 : ∀ p : GrBy wc, p.to.cell? ⟨bd, 1, none⟩ = some (.int .u64 (max ah bh)) := fun p => (At.gr HJ3.out p.gr).c1
      have k1 : (decide ((min ah bh) < (max al bl)) || ((decide (al ≤ (max al bl)) && decide ((max al bl) ≤ ah)) && (decide (al ≤ (min ah bh)) && decide ((min ah bh) ≤ ah)))) = true := by have := HZ.out; exact in_yes (by omega) (by omega) (by omega)
      have k2 : (decide ((min ah bh) < (max al bl)) || ((decide (bl ≤ (max al bl)) && decide ((max al bl) ≤ bh)) && (decide (bl ≤ (min ah bh)) && decide ((min ah bh) ≤ bh)))) = true := by have := HZ.out; exact in_yes (by omega) (by omega) (by omega)
      have k3 : (decide (ah < al) || ((decide ((min al bl) ≤ al) && decide (al ≤ (max ah bh))) && (decide ((min al bl) ≤ ah) && decide (ah ≤ (max ah bh))))) = true := by have := HN1.out; exact in_yes (by omega) (by omega) (by omega)
      have k4 : (decide (bh < bl) || ((decide ((min al bl) ≤ bl) && decide (bl ≤ (max ah bh))) && (decide ((min al bl) ≤ bh) && decide (bh ≤ (max ah bh))))) = true := by have := HN2.out; exact in_yes (by omega) (by omega) (by omega)
      have k5 : Hid _ := meet_mono HO1.out HO2.out HO3.out HO4.out HO5.out HO6.out
      have k6 : (decide (eN (decide (min ch dh < max cl dl)) 0 (min ch dh) < eN (decide (min ch dh < max cl dl)) 1 (max cl dl)) || ((decide ((max al bl) ≤ eN (decide (min ch dh < max cl dl)) 1 (max cl dl)) && decide (eN (decide (min ch dh < max cl dl)) 1 (max cl dl) ≤ (min ah bh))) && (decide ((max al bl) ≤ eN (decide (min ch dh < max cl dl)) 0 (min ch dh)) && decide (eN (decide (min ch dh < max cl dl)) 0 (min ch dh) ≤ (min ah bh))))) = true := by
        have h := k5.out
        rw [decide_eq_false (Int.not_lt.2 HZ.out)] at h
        exact h
      clear k5
      obtain ⟨p2, hp2⟩ : ∃ p : GrBy wc, p.to = wc := ⟨⟨wc, Gr.refl wc⟩, rfl⟩
      rw [← hp2]
      clear hp2
      go_wp2_with fail
      try simp only [List.append_eq, List.cons_append, List.nil_append]
      refine wp_region_by (by kernel_rfl) (by kernel_rfl) ?_
      repeat (first
        | go_big_quiet_skip
        | (go_big_quiet_want; go_big_quiet_op; first
          | go_big_quiet_on
          | (apply Exists.intro
             refine ⟨fun p => ?_, ?_⟩
             · first
               | (go_at_call 24; exact calls_gr (in_e _ _ _ _ _ (by with_reducible assumption) _))
               | (go_at_call 13; exact calls_gr (meet_u _ _ _ _ _))
               | (go_at_call 5; exact calls_gr (works_any _))
             go_big_quiet_on)))
      refine wpQuiet_nil ?_
      intro _ hw'
      obtain ⟨q3, rfl⟩ := hw'
      go_wp2
      go_ret
      exact ⟨rfl, HF3.out.trans q3.gr⟩
end Go.Proofs.Ytkfjjpdcbdbdiab
