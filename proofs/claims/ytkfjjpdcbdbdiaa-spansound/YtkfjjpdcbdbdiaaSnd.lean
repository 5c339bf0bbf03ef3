/- Towards the statements of package span (layer 4): what SpanSound asks, for any two numbers, whatever lies about them, any shift. -/
import Derived.Test.YtkfjjpdcbdbdiaaSM
import Derived.Test.YtkfjjpdcbdbdiaaMeet
import Derived.Test.YtkfjjpdcbdbdiaaRound
import Derived.Test.YtkfjjpdcbdbdiaaDiv
import Derived.Test.YtkfjjpdcbdbdiaaWorks
namespace Go.Proofs.Ytkfjjpdcbdbdiaa
open Go.ChangeShapes Go.WideShapes Go.ChangeAt Go.RowKit
set_option linter.unusedVariables false
set_option maxRecDepth 20000

theorem round_e (x p q l h : Int) (hx : InU x) (hp : InU p) (hq : InU q) (e1 : x - min x p = l) (e2 : x + min (18446744073709551615 - x) q = h) (w : World) : Calls Try.prog 56 #[.int .u64 x, .int .u64 p, .int .u64 q] w fun e w' => e = .returned (.agg #[.int .u64 l, .int .u64 h]) ∧ Gr w w' := by
  subst e1 e2
  exact round_any x p q hx hp hq w
theorem rem_u (x y : Int) (hx : InU x) (hc : 0 < y) : IntKind.u64.wrap (x % y) = x % y := by
  unfold InU at hx
  have h1 := Int.emod_nonneg x (show y ≠ 0 by omega)
  have h2 := Int.emod_add_mul_ediv x y
  have h3 : 0 ≤ y * (x / y) := Int.mul_nonneg (by omega) (Int.ediv_nonneg hx.1 (by omega))
  exact wrap_inU ⟨h1, by omega⟩
set_option maxHeartbeats 8000000 in
theorem sound_any (x y p q u v : Int) (hx : InU x) (hy : InU y) (hp : InU p) (hq : InU q) (hu : InU u) (hv : InU v) (n : Nat) (hn : n < 256) (w : World) : Calls Try.prog 7 #[.int .u64 x, .int .u64 y, .int .u64 p, .int .u64 q, .int .u64 u, .int .u64 v, .int .u8 (n : Int)] w fun e w' => e = .returned (.bool true) ∧ Gr w w' := by
  obtain ⟨al, ea⟩ : ∃ z, x - min x p = z := ⟨_, rfl⟩
  obtain ⟨ah, eb⟩ : ∃ z, x + min (18446744073709551615 - x) q = z := ⟨_, rfl⟩
  obtain ⟨bl, ec⟩ : ∃ z, y - min y u = z := ⟨_, rfl⟩
  obtain ⟨bh, ed⟩ : ∃ z, y + min (18446744073709551615 - y) v = z := ⟨_, rfl⟩
  have i0 : InU al := by unfold InU at *; omega
  have i1 : InU ah := by unfold InU at *; omega
  have i2 : InU bl := by unfold InU at *; omega
  have i3 : InU bh := by unfold InU at *; omega
  have n1 : al ≤ x := by unfold InU at *; omega
  have n2 : x ≤ ah := by unfold InU at *; omega
  have n3 : bl ≤ y := by unfold InU at *; omega
  have n4 : y ≤ bh := by unfold InU at *; omega
  have H1 : Hid (al ≤ x) := n1
  have H2 : Hid (x ≤ ah) := n2
  have H3 : Hid (bl ≤ y) := n3
  have H4 : Hid (y ≤ bh) := n4
  have k1 := has_yes n1 n2
  have k2 := has_yes n3 n4
  have k3 := add_in i0 i1 i2 i3 n1 n2 n3 n4
  have k4 := sub_in i0 i1 i2 i3 n1 n2 n3 n4
  have k5 := mul_in i0 i1 i2 i3 n1 n2 n3 n4
  clear n1 n2 n3 n4
  have HG : Gr w w := Gr.refl w
  go_enter Try.func7, Try.ntmps7
  go_wp2_with (first
    | (go_at_call_of 56 (Value.int IntKind.u64 x); refine (round_e _ _ _ _ _ hx hp hq ea eb _).mono ?_; rintro e w1 ⟨rfl, g1⟩)
    | (go_at_call_of 56 (Value.int IntKind.u64 y); refine (round_e _ _ _ _ _ hy hu hv ec ed _).mono ?_; rintro e w2 ⟨rfl, g2⟩))
  have HA : Hid (At ((w2.alloc (.cells #[.int .u64 al, .int .u64 ah] 35)).alloc (.cells #[.int .u64 bl, .int .u64 bh] 35)) w2.heap.size (.int .u64 al) (.int .u64 ah) 35) := (At.newb _ rfl _ _ _).alloc _
  have HB : Hid (At ((w2.alloc (.cells #[.int .u64 al, .int .u64 ah] 35)).alloc (.cells #[.int .u64 bl, .int .u64 bh] 35)) (w2.heap.size + 1) (.int .u64 bl) (.int .u64 bh) 35) := At.newb _ (by simp) _ _ _
  have HF : Hid (Gr w ((w2.alloc (.cells #[.int .u64 al, .int .u64 ah] 35)).alloc (.cells #[.int .u64 bl, .int .u64 bh] 35))) := ((g1.trans g2).alloc _ _).alloc _ _
  clear HG g1 g2 ea eb ec ed
  revert HA HB HF
  generalize ((w2.alloc (.cells #[.int .u64 al, .int .u64 ah] 35)).alloc (.cells #[.int .u64 bl, .int .u64 bh] 35)) = W
  intro HA HB HF
  have hne : Nonempty (GrBy W) := ⟨⟨W, Gr.refl W⟩⟩
  have a0 : ∀ p : GrBy W, p.to.cell? ⟨w2.heap.size, 0, none⟩ = some (.int .u64 al) := fun p => (HA.out.gr p.gr).c0
  have a1 : ∀ p : GrBy W, p.to.cell? ⟨w2.heap.size, 1, none⟩ = some (.int .u64 ah) := fun p => (HA.out.gr p.gr).c1
  have b0 : ∀ p : GrBy W, p.to.cell? ⟨w2.heap.size + 1, 0, none⟩ = some (.int .u64 bl) := fun p => (HB.out.gr p.gr).c0
  have b1 : ∀ p : GrBy W, p.to.cell? ⟨w2.heap.size + 1, 1, none⟩ = some (.int .u64 bh) := fun p => (HB.out.gr p.gr).c1
  obtain ⟨p', hp'⟩ : ∃ p : GrBy W, p.to = W := ⟨⟨W, Gr.refl W⟩, rfl⟩
  rw [← hp']
  clear hp'
  have hcase : (y = 0) ∨ (0 < y) := by unfold InU at *; omega
  rcases hcase with hy0 | hy0
  · have k6 := div_in i0 i1 i2 i3 H1.out H2.out H3.out H4.out 0 (by rw [if_pos hy0])
    have k7 := mod_in i0 i1 i2 i3 H1.out H2.out H3.out H4.out x (by rw [if_pos hy0])
    have hb : (y != 0) = false := by rw [hy0]; rfl
    clear hy0
    have k8 := shl_in i0 i1 hx n H1.out H2.out
    have k9 := shr_in n H1.out H2.out
    go_wp2_with (first
      | (go_at_call 22; refine (Has_eu _ _ _ _ (by with_reducible assumption) _).mono ?_; rintro e w' ⟨rfl, hg⟩; obtain ⟨q', rfl⟩ := by_of hg; clear hg)
      | (go_at_call 36; refine (add_any _ _ _ _ i0 i1 i2 i3 _).mono ?_; rintro e w' ⟨rfl, hg⟩; obtain ⟨q', rfl⟩ := by_of hg; clear hg)
      | (go_at_call 38; refine (sub_any _ _ _ _ i0 i1 i2 i3 _).mono ?_; rintro e w' ⟨rfl, hg⟩; obtain ⟨q', rfl⟩ := by_of hg; clear hg)
      | (go_at_call 39; refine (mul_any _ _ _ _ i0 i1 i2 i3 _).mono ?_; rintro e w' ⟨rfl, hg⟩; obtain ⟨q', rfl⟩ := by_of hg; clear hg)
      | (go_at_call 40; refine (div_any _ _ _ _ i0 i1 i2 i3 _).mono ?_; rintro e w' ⟨rfl, hg⟩; obtain ⟨q', rfl⟩ := by_of hg; clear hg)
      | (go_at_call 41; refine (mod_any _ _ _ _ i0 i1 i2 i3 _).mono ?_; rintro e w' ⟨rfl, hg⟩; obtain ⟨q', rfl⟩ := by_of hg; clear hg)
      | (go_at_call 42; refine (shl_any _ _ i0 i1 _ _).mono ?_; rintro e w' ⟨rfl, hg⟩; obtain ⟨q', rfl⟩ := by_of hg; clear hg)
      | (go_at_call 44; refine (shr_any _ _ i0 i1 _ _).mono ?_; rintro e w' ⟨rfl, hg⟩; obtain ⟨q', rfl⟩ := by_of hg; clear hg))
    clear k1 k2 k3 k4 k5 k6 k7 k8 k9
    have m0 : Hid _ := @meet_in al ah bl bh x H1.out H2.out
    have k2 := join_l (bl := bl) (bh := bh) H1.out H2.out (Int.le_trans H3.out H4.out)
    have k3 := join_r (Int.le_trans H1.out H2.out) H3.out H4.out
    have k4 := sign_in i0 i1 H1.out H2.out
    cases hβ : (decide (bl ≤ x) && decide (x ≤ bh))
    all_goals
      have k5 := m0.out.trans hβ
      try simp only [List.append_eq, List.cons_append, List.nil_append]
      refine wp_region_by (by kernel_rfl) (by kernel_rfl) ?_
      repeat (first
        | go_big_quiet_skip
        | (go_big_quiet_want; go_big_quiet_op; first
          | go_big_quiet_on
          | (apply Exists.intro
             refine ⟨fun p => ?_, ?_⟩
             · first
               | (go_at_call 22; exact calls_gr (Has_eu _ _ _ _ (by with_reducible assumption) _))
               | (go_at_call 30; exact calls_gr (Has_es _ _ _ _ (by with_reducible assumption) _))
               | (go_at_call 24; exact calls_gr (meet_u _ _ _ _ _))
               | (go_at_call 26; exact calls_gr (join_u _ _ _ _ _))
               | (go_at_call 52; exact calls_gr (sign_any _ _ _))
             go_big_quiet_on)))
      refine wpQuiet_nil ?_
      intro _ hw'
      obtain ⟨q1, rfl⟩ := hw'
      go_wp2_with (first
        | (go_at_call 35; refine (works_any _).mono ?_; rintro e w' ⟨rfl, hg⟩; obtain ⟨q', rfl⟩ := by_of hg; clear hg))
      go_ret
      exact ⟨rfl, HF.out.trans q'.gr⟩
  · have k6 := div_in i0 i1 i2 i3 H1.out H2.out H3.out H4.out (x / y) (by rw [if_neg (by omega)])
    have k7 := mod_in i0 i1 i2 i3 H1.out H2.out H3.out H4.out (x % y) (by rw [if_neg (by omega)])
    have hb : (y != 0) = true := by rw [bne_iff_ne]; omega
    have hb2 : y ≠ 0 := by omega
    have d1 := quo_u x y hx hy0
    have d2 : x.tdiv y = x / y := Int.tdiv_eq_ediv_of_nonneg hx.1
    have d3 : IntKind.u64.wrap (x / y) = x / y := by rw [← d2, d1, d2]
    have d4 : x.tmod y = x % y := Int.tmod_eq_emod_of_nonneg hx.1
    have d5 : IntKind.u64.wrap (x % y) = x % y := rem_u x y hx hy0
    clear d1
    have k8 := shl_in i0 i1 hx n H1.out H2.out
    have k9 := shr_in n H1.out H2.out
    go_wp2_with (first
      | (go_at_call 22; refine (Has_eu _ _ _ _ (by with_reducible assumption) _).mono ?_; rintro e w' ⟨rfl, hg⟩; obtain ⟨q', rfl⟩ := by_of hg; clear hg)
      | (go_at_call 36; refine (add_any _ _ _ _ i0 i1 i2 i3 _).mono ?_; rintro e w' ⟨rfl, hg⟩; obtain ⟨q', rfl⟩ := by_of hg; clear hg)
      | (go_at_call 38; refine (sub_any _ _ _ _ i0 i1 i2 i3 _).mono ?_; rintro e w' ⟨rfl, hg⟩; obtain ⟨q', rfl⟩ := by_of hg; clear hg)
      | (go_at_call 39; refine (mul_any _ _ _ _ i0 i1 i2 i3 _).mono ?_; rintro e w' ⟨rfl, hg⟩; obtain ⟨q', rfl⟩ := by_of hg; clear hg)
      | (go_at_call 40; refine (div_any _ _ _ _ i0 i1 i2 i3 _).mono ?_; rintro e w' ⟨rfl, hg⟩; obtain ⟨q', rfl⟩ := by_of hg; clear hg)
      | (go_at_call 41; refine (mod_any _ _ _ _ i0 i1 i2 i3 _).mono ?_; rintro e w' ⟨rfl, hg⟩; obtain ⟨q', rfl⟩ := by_of hg; clear hg)
      | (go_at_call 42; refine (shl_any _ _ i0 i1 _ _).mono ?_; rintro e w' ⟨rfl, hg⟩; obtain ⟨q', rfl⟩ := by_of hg; clear hg)
      | (go_at_call 44; refine (shr_any _ _ i0 i1 _ _).mono ?_; rintro e w' ⟨rfl, hg⟩; obtain ⟨q', rfl⟩ := by_of hg; clear hg))
    clear k1 k2 k3 k4 k5 k6 k7 k8 k9
    have m0 : Hid _ := @meet_in al ah bl bh x H1.out H2.out
    have k2 := join_l (bl := bl) (bh := bh) H1.out H2.out (Int.le_trans H3.out H4.out)
    have k3 := join_r (Int.le_trans H1.out H2.out) H3.out H4.out
    have k4 := sign_in i0 i1 H1.out H2.out
    cases hβ : (decide (bl ≤ x) && decide (x ≤ bh))
    all_goals
      have k5 := m0.out.trans hβ
      try simp only [List.append_eq, List.cons_append, List.nil_append]
      refine wp_region_by (by kernel_rfl) (by kernel_rfl) ?_
      repeat (first
        | go_big_quiet_skip
        | (go_big_quiet_want; go_big_quiet_op; first
          | go_big_quiet_on
          | (apply Exists.intro
             refine ⟨fun p => ?_, ?_⟩
             · first
               | (go_at_call 22; exact calls_gr (Has_eu _ _ _ _ (by with_reducible assumption) _))
               | (go_at_call 30; exact calls_gr (Has_es _ _ _ _ (by with_reducible assumption) _))
               | (go_at_call 24; exact calls_gr (meet_u _ _ _ _ _))
               | (go_at_call 26; exact calls_gr (join_u _ _ _ _ _))
               | (go_at_call 52; exact calls_gr (sign_any _ _ _))
             go_big_quiet_on)))
      refine wpQuiet_nil ?_
      intro _ hw'
      obtain ⟨q1, rfl⟩ := hw'
      go_wp2_with (first
        | (go_at_call 35; refine (works_any _).mono ?_; rintro e w' ⟨rfl, hg⟩; obtain ⟨q', rfl⟩ := by_of hg; clear hg))
      go_ret
      exact ⟨rfl, HF.out.trans q'.gr⟩
end Go.Proofs.Ytkfjjpdcbdbdiaa
