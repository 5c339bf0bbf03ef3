/- Towards the statements of package span (layer 4): what SpanSigned asks, for any two numbers with a sign, whatever lies about them, any shift. -/
import Derived.Test.YtkfjjpdcbdbdiaaSM
import Derived.Test.YtkfjjpdcbdbdiaaMeet
import Derived.Test.YtkfjjpdcbdbdiaaRound
import Derived.Test.YtkfjjpdcbdbdiaaWorks
namespace Go.Proofs.Ytkfjjpdcbdbdiaa
open Go.ChangeShapes Go.WideShapes Go.ChangeAt Go.RowKit
set_option linter.unusedVariables false
set_option maxRecDepth 20000

theorem about_e (x p q l h : Int) (hx : InS x) (hp : InU p) (hq : InU q) (e1 : x - min (x + 9223372036854775808) p = l) (e2 : x + min (18446744073709551615 - (x + 9223372036854775808)) q = h) (w : World) : Calls Try.prog 57 #[.int .i64 x, .int .u64 p, .int .u64 q] w fun e w' => e = .returned (.agg #[.int .i64 l, .int .i64 h]) ∧ Gr w w' := by
  subst e1 e2
  exact about_any x p q hx hp hq w
theorem sar_min (x : Int) (hx : InS x) (n : Nat) : x / 2 ^ min n 64 = x / 2 ^ min n 63 := by
  unfold InS at hx
  by_cases h : n ≤ 63
  · rw [Nat.min_eq_left (by omega), Nat.min_eq_left h]
  · rw [Nat.min_eq_right (by omega : 64 ≤ n), Nat.min_eq_right (by omega : 63 ≤ n)]
    have e1 : (2 : Int) ^ 64 = 18446744073709551616 := by decide
    have e2 : (2 : Int) ^ 63 = 9223372036854775808 := by decide
    rw [e1, e2]
    omega
set_option maxHeartbeats 8000000 in
theorem signed_any (x y p q u v : Int) (hx : InS x) (hy : InS y) (hp : InU p) (hq : InU q) (hu : InU u) (hv : InU v) (n : Nat) (hn : n < 256) (w : World) : Calls Try.prog 8 #[.int .i64 x, .int .i64 y, .int .u64 p, .int .u64 q, .int .u64 u, .int .u64 v, .int .u8 (n : Int)] w fun e w' => e = .returned (.bool true) ∧ Gr w w' := by
  obtain ⟨al, ea⟩ : ∃ z, x - min (x + 9223372036854775808) p = z := ⟨_, rfl⟩
  obtain ⟨ah, eb⟩ : ∃ z, x + min (18446744073709551615 - (x + 9223372036854775808)) q = z := ⟨_, rfl⟩
  obtain ⟨bl, ec⟩ : ∃ z, y - min (y + 9223372036854775808) u = z := ⟨_, rfl⟩
  obtain ⟨bh, ed⟩ : ∃ z, y + min (18446744073709551615 - (y + 9223372036854775808)) v = z := ⟨_, rfl⟩
  have i0 : InS al := by unfold InU InS at *; omega
  have i1 : InS ah := by unfold InU InS at *; omega
  have i2 : InS bl := by unfold InU InS at *; omega
  have i3 : InS bh := by unfold InU InS at *; omega
  have H1 : Hid (al ≤ x) := (show al ≤ x by unfold InU InS at *; omega)
  have H2 : Hid (x ≤ ah) := (show x ≤ ah by unfold InU InS at *; omega)
  have H3 : Hid (bl ≤ y) := (show bl ≤ y by unfold InU InS at *; omega)
  have H4 : Hid (y ≤ bh) := (show y ≤ bh by unfold InU InS at *; omega)
  have k1 := has_yes H1.out H2.out
  have k2 := has_yes H3.out H4.out
  have k3 := plus_in i0 i1 i2 i3 H1.out H2.out H3.out H4.out
  have k4 := minus_in i0 i1 i2 i3 H1.out H2.out H3.out H4.out
  have k5 := sar_in n H1.out H2.out
  have r5 := sar_min x hx n
  have HG : Gr w w := Gr.refl w
  go_enter Try.func8, Try.ntmps8
  go_wp2_with (first
    | (go_at_call_of 57 (Value.int IntKind.i64 x); refine (about_e _ _ _ _ _ hx hp hq ea eb _).mono ?_; rintro e w1 ⟨rfl, g1⟩)
    | (go_at_call_of 57 (Value.int IntKind.i64 y); refine (about_e _ _ _ _ _ hy hu hv ec ed _).mono ?_; rintro e w2 ⟨rfl, g2⟩))
  have HA : Hid (At ((w2.alloc (.cells #[.int .i64 al, .int .i64 ah] 37)).alloc (.cells #[.int .i64 bl, .int .i64 bh] 37)) w2.heap.size (.int .i64 al) (.int .i64 ah) 37) := (At.newb _ rfl _ _ _).alloc _
  have HB : Hid (At ((w2.alloc (.cells #[.int .i64 al, .int .i64 ah] 37)).alloc (.cells #[.int .i64 bl, .int .i64 bh] 37)) (w2.heap.size + 1) (.int .i64 bl) (.int .i64 bh) 37) := At.newb _ (by simp) _ _ _
  have HF : Hid (Gr w ((w2.alloc (.cells #[.int .i64 al, .int .i64 ah] 37)).alloc (.cells #[.int .i64 bl, .int .i64 bh] 37))) := ((g1.trans g2).alloc _ _).alloc _ _
  clear HG g1 g2 ea eb ec ed
  revert HA HB HF
  generalize ((w2.alloc (.cells #[.int .i64 al, .int .i64 ah] 37)).alloc (.cells #[.int .i64 bl, .int .i64 bh] 37)) = W
  intro HA HB HF
  have hne : Nonempty (GrBy W) := ⟨⟨W, Gr.refl W⟩⟩
  have a0 : ∀ p : GrBy W, p.to.cell? ⟨w2.heap.size, 0, none⟩ = some (.int .i64 al) := fun p => (HA.out.gr p.gr).c0
  have a1 : ∀ p : GrBy W, p.to.cell? ⟨w2.heap.size, 1, none⟩ = some (.int .i64 ah) := fun p => (HA.out.gr p.gr).c1
  have b0 : ∀ p : GrBy W, p.to.cell? ⟨w2.heap.size + 1, 0, none⟩ = some (.int .i64 bl) := fun p => (HB.out.gr p.gr).c0
  have b1 : ∀ p : GrBy W, p.to.cell? ⟨w2.heap.size + 1, 1, none⟩ = some (.int .i64 bh) := fun p => (HB.out.gr p.gr).c1
  obtain ⟨p', hp'⟩ : ∃ p : GrBy W, p.to = W := ⟨⟨W, Gr.refl W⟩, rfl⟩
  rw [← hp']
  clear hp'
  go_wp2_with (first
    | (go_at_call 30; refine (Has_es _ _ _ _ (by with_reducible assumption) _).mono ?_; rintro e w' ⟨rfl, hg⟩; obtain ⟨q', rfl⟩ := by_of hg; clear hg)
    | (go_at_call 46; refine (plus_any _ _ _ _ i0 i1 i2 i3 _).mono ?_; rintro e w' ⟨rfl, hg⟩; obtain ⟨q', rfl⟩ := by_of hg; clear hg)
    | (go_at_call 48; refine (minus_any _ _ _ _ i0 i1 i2 i3 _).mono ?_; rintro e w' ⟨rfl, hg⟩; obtain ⟨q', rfl⟩ := by_of hg; clear hg)
    | (go_at_call 50; refine (sar_any _ _ i0 i1 _ _).mono ?_; rintro e w' ⟨rfl, hg⟩; obtain ⟨q', rfl⟩ := by_of hg; clear hg))
  clear k1 k2 k3 k4 k5
  have m0 : Hid _ := @meet_in al ah bl bh x H1.out H2.out
  have k3 := join_r (Int.le_trans H1.out H2.out) H3.out H4.out
  have k4 := bare_in i0 i1 H1.out H2.out
  cases hβ : (decide (bl ≤ x) && decide (x ≤ bh))
  all_goals
    have k5 := m0.out.trans hβ
    try simp only [List.append_eq, List.cons_append, List.nil_append]
    refine wp_region_by (by kernel_rfl) (by kernel_rfl) ?_
    repeat (first
      | go_big_quiet_skip
      | (go_big_quiet_want; go_big_quiet_op; first
        | go_big_quiet_on
        | (apply Exists.intro
           refine ⟨fun p => ?_, ?_⟩
           · first
             | (go_at_call 30; exact calls_gr (Has_es _ _ _ _ (by with_reducible assumption) _))
             | (go_at_call 22; exact calls_gr (Has_eu _ _ _ _ (by with_reducible assumption) _))
             | (go_at_call 31; exact calls_gr (meet_s _ _ _ _ _))
             | (go_at_call 33; exact calls_gr (join_s _ _ _ _ _))
             | (go_at_call 54; exact calls_gr (bare_any _ _ _))
             | (go_at_call 35; exact calls_gr (works_any _))
           go_big_quiet_on)))
    refine wpQuiet_nil ?_
    intro _ hw'
    obtain ⟨q1, rfl⟩ := hw'
    go_wp2
    go_ret
    exact ⟨rfl, HF.out.trans q1.gr⟩
end Go.Proofs.Ytkfjjpdcbdbdiaa
