/- Towards the statements of package slab (layer 12): Take, Give. -/
import Derived.Test.YtooblonafnlfcaaDoorSG
namespace Go.Proofs.YtooblonafnlfcaaDoor
open Go.ChangeShapes Go.WideShapes Go.ChangeAt Go.RowKit
set_option linter.unusedVariables false
set_option linter.unusedSimpArgs false
set_option maxRecDepth 20000
variable {Yo : Nat → Prop}
theorem take_bad (w : World) (B b : Nat) (room used : Int) (T : Nat → Th) (n : Nat) (h : SlF Yo w B b room used T n) (hT : Tab w) (s : Int) (hs : clsM s = 0) : Calls Tryd.prog 32 #[.pointer (some ⟨b, 0, none⟩), .int .i64 s] w fun e w' => e = .returned (.tuple #[.int .i64 0, .int .i64 2]) ∧ w' = w := by
  obtain ⟨c0, c1, c2, -, -⟩ := h.cells
  have k1 := made_yes w b c0
  have k2 := class_any s w hT
  rw [hs] at k2
  go_enter Tryd.func32, Tryd.ntmps32
  go_wp2_with (first | (go_at_call 54; refine k1.mono ?_; rintro e w' ⟨rfl, hw⟩; rw [hw]; clear hw) | (go_at_call 55; refine k2.mono ?_; rintro e w' ⟨rfl, hw⟩; rw [hw]; clear hw))
  all_goals go_returns
  all_goals exact ⟨rfl, rfl⟩
theorem take_full (w : World) (B b : Nat) (room used : Int) (T : Nat → Th) (n : Nat) (h : SlF Yo w B b room used T n) (hT : Tab w) (s : Int) (hs : 0 < clsM s) (hf : room < used + clsM s) : Calls Tryd.prog 32 #[.pointer (some ⟨b, 0, none⟩), .int .i64 s] w fun e w' => e = .returned (.tuple #[.int .i64 0, .int .i64 6]) ∧ SlF Yo w' B b room used T n ∧ FrF Yo B b w w' := by
  obtain ⟨c0, c1, c2, -, -⟩ := h.cells
  have k1 := made_yes w b c0
  have k2 := class_any s w hT
  have hb := clsM_bd s
  have hu := h.us
  have hr := h.rm
  generalize clsM s = c at *
  have hw : IntKind.i64.wrap (used + c) = used + c := IntWalk.i64_in _ (by omega)
  have hd : decide (0 < c) = true := by simp; omega
  rw [hd] at k2
  have hd2 : decide (room < used + c) = true := by simp; omega
  go_enter Tryd.func32, Tryd.ntmps32
  go_upto_region 6 with (first | (go_at_call 54; refine k1.mono ?_; rintro e w' ⟨rfl, hw⟩; rw [hw]; clear hw) | (go_at_call 55; refine k2.mono ?_; rintro e w' ⟨rfl, hw⟩; rw [hw]; clear hw))
  go_region
  go_wp2
  all_goals go_returns
  all_goals exact ⟨rfl, h.drew, (FrF.refl (Yo := Yo) B b w).drew⟩
set_option maxHeartbeats 1000000 in
theorem take_ok (w : World) (B b : Nat) (room used : Int) (T : Nat → Th) (n : Nat) (h : SlF Yo w B b room used T n) (hT : Tab w) (s : Nat) (hs : 1 ≤ s ∧ s ≤ 128) (hf : used + clsM s ≤ room) (hBW : B ≤ w.heap.size) (hn : n + 1 ≤ 100000) :
    Calls Tryd.prog 32 #[.pointer (some ⟨b, 0, none⟩), .int .i64 s] w fun e w' => ∃ k : Nat, e = .returned (.tuple #[.int .i64 k, .int .i64 0]) ∧ T k = none ∧ (∀ j, j < k → (T j).isSome = true) ∧ k ≤ 64 * n ∧ (∃ h n', n' ≤ n + 1 ∧ SlF Yo w' B b room (used + clsM s) (upd T k (some (h, List.replicate s 0))) n') ∧ FrF Yo B b w w' := by
  obtain ⟨c0, c1, c2, -, -⟩ := h.cells
  have k1 := made_yes w b c0
  have k2 := class_any s w hT
  have hb := clsM_bd s
  have hp := clsM_pos s
  have hu := h.us
  have hr := h.rm
  have hd : decide (0 < clsM (s : Int)) = true := by rw [hp]; simp; omega
  have hc0 : 0 < clsM (s : Int) := by simpa using hd
  clear hp
  rw [hd] at k2
  have k3 := least_any w.drew B b room used T n h.drew
  generalize clsM (s : Int) = c at *
  have hw : IntKind.i64.wrap (used + c) = used + c := IntWalk.i64_in _ (by omega)
  have hd2 : decide (room < used + c) = false := by simp; omega
  go_enter Tryd.func32, Tryd.ntmps32
  go_upto_region 6 with (first | (go_at_call 54; refine k1.mono ?_; rintro e w' ⟨rfl, hw⟩; rw [hw]; clear hw) | (go_at_call 55; refine k2.mono ?_; rintro e w' ⟨rfl, hw⟩; rw [hw]; clear hw))
  go_region
  go_upto_region 9 with (go_at_call 56; refine k3.mono ?_; rintro e w' ⟨⟨k, rfl, hk1, hk2, hk3⟩, hw⟩; rw [hw]; clear hw)
  have k4 := fill_any w.drew B b room used T n h.drew k s hk3 hk1 hs hBW hn
  go_upto_region 10 with (go_at_call 57; refine k4.mono ?_; rintro e w2 ⟨rfl, ⟨hh, n', hn', hS⟩, hF⟩)
  obtain ⟨-, -, e2, ef, -⟩ := hS.cells
  have f2 := ef 2
  clear c0 c1 c2 k1 k2 k3 k4
  go_wp2
  all_goals go_returns
  obtain ⟨hS2, hF2⟩ := hS.use (used + c) (by omega)
  exact ⟨k, rfl, hk1, hk2, hk3, ⟨hh, n', hn', hS2⟩, ((FrF.refl (Yo := Yo) B b w).drew.trans hF).trans hF2⟩
end Go.Proofs.YtooblonafnlfcaaDoor
