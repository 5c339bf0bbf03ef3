/- Towards the statements of package slab (layer 12): Give; Read and Write that go wrong. -/
import Derived.Test.YtooblonafnlfcaaDoorSI
namespace Go.Proofs.YtooblonafnlfcaaDoor
open Go.ChangeShapes Go.WideShapes Go.ChangeAt Go.RowKit
set_option linter.unusedVariables false
set_option linter.unusedSimpArgs false
set_option maxRecDepth 20000
variable {Yo : Nat → Prop}
theorem give_none (w : World) (B b : Nat) (room used : Int) (T : Nat → Th) (n : Nat) (h : SlF Yo w B b room used T n) (s : Int) (hs : I64 s) (hT : getT T s = none) : Calls Tryd.prog 51 #[.pointer (some ⟨b, 0, none⟩), .int .i64 s] w fun e w' => e = .returned (.int .i64 5) ∧ w' = w := by
  obtain ⟨c0, c1, c2, -, -⟩ := h.cells
  have k1 := made_yes w b c0
  have k2 := size_any w B b room used T n h s hs
  rw [hT] at k2
  go_enter Tryd.func51, Tryd.ntmps51
  go_wp2_with (first | (go_at_call 54; refine k1.mono ?_; rintro e w' ⟨rfl, hw⟩; rw [hw]; clear hw) | (go_at_call 69; refine k2.mono ?_; rintro e w' ⟨rfl, hw⟩; rw [hw]; clear hw))
  all_goals go_returns
  all_goals exact ⟨rfl, rfl⟩
set_option maxHeartbeats 1000000 in
theorem give_ok (w : World) (B b : Nat) (room used : Int) (T : Nat → Th) (n : Nat) (h : SlF Yo w B b room used T n) (hTab : Tab w) (k : Nat) (hk : I64 k) (hh : Nat) (bs : List Int) (hT : T k = some (hh, bs)) (hu : clsM bs.length ≤ used) :
    Calls Tryd.prog 51 #[.pointer (some ⟨b, 0, none⟩), .int .i64 k] w fun e w' => e = .returned (.int .i64 0) ∧ SlF Yo w' B b room (used - clsM bs.length) (upd T k none) n ∧ FrF Yo B b w w' := by
  obtain ⟨c0, c1, c2, -, -⟩ := h.cells
  have k1 := made_yes w b c0
  have hT2 : getT T k = some (hh, bs) := by simp [getT, hT]
  have k2 := size_any w B b room used T n h k hk
  rw [hT2] at k2
  simp only [szOf, Option.isSome] at k2
  have k3 := class_any bs.length w hTab
  have k4 := empty_any w B b room used T n h k (hh, bs) hT
  have hb := clsM_bd (bs.length : Int)
  have hus := h.us
  have hrm := h.rm
  generalize clsM (bs.length : Int) = c at *
  have hw : IntKind.i64.wrap (used - c) = used - c := IntWalk.i64_in _ (by omega)
  go_enter Tryd.func51, Tryd.ntmps51
  go_upto_region 8 with (first | (go_at_call 54; refine k1.mono ?_; rintro e w' ⟨rfl, hw⟩; rw [hw]; clear hw) | (go_at_call 69; refine k2.mono ?_; rintro e w' ⟨rfl, hw⟩; rw [hw]; clear hw) | (go_at_call 55; refine k3.mono ?_; rintro e w' ⟨rfl, hw⟩; rw [hw]; clear hw) | (go_at_call 70; refine k4.mono ?_; rintro e w2 ⟨rfl, hS, hF⟩))
  obtain ⟨-, -, e2, ef, -⟩ := hS.cells
  have f2 := ef 2
  clear c0 c1 c2 k1 k2 k3 k4
  go_wp2
  all_goals go_returns
  obtain ⟨hS2, hF2⟩ := hS.use (used - c) (by omega)
  exact ⟨rfl, hS2, hF.trans hF2⟩
/-- Which error a part tells: 5: there is none, 120: not within; 0: it goes well. -/
def partE (x : Th) (a m : Int) : Int := match x with
  | none => 5
  | some (_, bs) => if 0 ≤ a ∧ 0 ≤ m ∧ a + m ≤ bs.length then 0 else 120
theorem part_bad (w : World) (B b : Nat) (room used : Int) (T : Nat → Th) (n : Nat) (h : SlF Yo w B b room used T n) (s : Int) (hs : I64 s) (a m : Int) (ha : I64 a) (hm : I64 m) (c : Int) (hc : partE (getT T s) a m = c) (h0 : c ≠ 0) :
    Calls Tryd.prog 71 #[.pointer (some ⟨b, 0, none⟩), .int .i64 s, .int .i64 a, .int .i64 m] w fun e w' => e = .returned (.tuple #[.slice none 0 0, .int .i64 c]) ∧ w' = w := by
  obtain ⟨c0, c1, c2, -, -⟩ := h.cells
  have k1 := made_yes w b c0
  have k2 := thing_any w B b room used T n h s hs
  have q1 := eqn_nil w
  have q2 := fun a m c => eqn_some a m c w
  obtain ⟨ha1, ha2⟩ := ha
  obtain ⟨hm1, hm2⟩ := hm
  cases hg : getT T s with
  | none =>
    rw [hg] at k2 hc
    simp only [partE] at hc
    subst hc
    unfold thV at k2
    go_enter Tryd.func71, Tryd.ntmps71
    go_wp2_with (first | (go_at_call 54; refine k1.mono ?_; rintro e w' ⟨rfl, hw⟩; rw [hw]; clear hw) | (go_at_call 78; refine k2.mono ?_; rintro e w' ⟨rfl, hw⟩; rw [hw]; clear hw))
    all_goals go_returns
    all_goals exact ⟨rfl, rfl⟩
  | some x =>
    obtain ⟨hh, bs⟩ := x
    have hl : bs.length ≤ 128 := by
      unfold getT at hg
      split at hg
      · cases hg
      · exact (h.th _ _ _ hg).2.2.2.1
    rw [hg] at k2 hc
    simp only [partE] at hc
    unfold thV at k2
    have hne : ¬ (0 ≤ a ∧ 0 ≤ m ∧ a + m ≤ (bs.length : Int)) := fun q => by rw [if_pos q] at hc; exact h0 hc.symm
    rw [if_neg hne] at hc
    subst hc
    replace hne : Hid _ := hne
    by_cases z1 : a < 0
    · go_enter Tryd.func71, Tryd.ntmps71
      go_wp2_with (first | (go_at_call 54; refine k1.mono ?_; rintro e w' ⟨rfl, hw⟩; rw [hw]; clear hw) | (go_at_call 78; refine k2.mono ?_; rintro e w' ⟨rfl, hw⟩; rw [hw]; clear hw))
      all_goals go_returns
      all_goals exact ⟨rfl, rfl⟩
    by_cases z2 : m < 0
    · go_enter Tryd.func71, Tryd.ntmps71
      go_wp2_with (first | (go_at_call 54; refine k1.mono ?_; rintro e w' ⟨rfl, hw⟩; rw [hw]; clear hw) | (go_at_call 78; refine k2.mono ?_; rintro e w' ⟨rfl, hw⟩; rw [hw]; clear hw))
      all_goals go_returns
      all_goals exact ⟨rfl, rfl⟩
    have w1 : IntKind.i64.wrap ((bs.length : Int) - a) = (bs.length : Int) - a := IntWalk.i64_in _ (by omega)
    have d1 : decide ((bs.length : Int) - a < m) = true := by
      have q : (bs.length : Int) < a + m := Int.not_le.1 fun q => hne.out ⟨Int.not_lt.1 z1, Int.not_lt.1 z2, q⟩
      rw [decide_eq_true_eq]
      exact Int.sub_left_lt_of_lt_add q
    go_enter Tryd.func71, Tryd.ntmps71
    go_wp2_with (first | (go_at_call 54; refine k1.mono ?_; rintro e w' ⟨rfl, hw⟩; rw [hw]; clear hw) | (go_at_call 78; refine k2.mono ?_; rintro e w' ⟨rfl, hw⟩; rw [hw]; clear hw))
    all_goals go_returns
    all_goals exact ⟨rfl, rfl⟩
theorem read_bad (w : World) (B b : Nat) (room used : Int) (T : Nat → Th) (n : Nat) (h : SlF Yo w B b room used T n) (s : Int) (hs : I64 s) (a m : Int) (ha : I64 a) (hm : I64 m) (c : Int) (hc : partE (getT T s) a m = c) (h0 : c ≠ 0) :
    Calls Tryd.prog 52 #[.pointer (some ⟨b, 0, none⟩), .int .i64 s, .int .i64 a, .int .i64 m] w fun e w' => e = .returned (.tuple #[.string ⟨#[]⟩, .int .i64 c]) ∧ w' = w := by
  have k1 := part_bad w B b room used T n h s hs a m ha hm c hc h0
  have hcv := Lib.run_convert_nil_bytes (P := Tryd.prog) w 65 9 5 0 Tryd.underlying65 Tryd.underlying5 Tryd.underlying9
  go_enter Tryd.func52, Tryd.ntmps52
  go_wp2_with (go_at_call 71; refine k1.mono ?_; rintro e w' ⟨rfl, hw⟩; rw [hw]; clear hw)
  all_goals go_returns
  all_goals exact ⟨rfl, rfl⟩
end Go.Proofs.YtooblonafnlfcaaDoor
