/- Towards the statements of package slab (layer 12): New, Take, Give, Size, Used, Room. -/
import Derived.Test.YtooblonafnlfcaaDoorSF
namespace Go.Proofs.YtooblonafnlfcaaDoor
open Go.ChangeShapes Go.WideShapes Go.ChangeAt Go.RowKit
set_option linter.unusedVariables false
set_option linter.unusedSimpArgs false
set_option maxRecDepth 20000
variable {Yo : Nat → Prop}
theorem SlF.cells {w : World} {B b : Nat} {room used : Int} {T : Nat → Th} {n : Nat} (h : SlF Yo w B b room used T n) :
    w.cell? ⟨b, 0, none⟩ = some (.bool true) ∧ w.cell? ⟨b, 1, none⟩ = some (.int .i64 room) ∧ w.cell? ⟨b, 2, none⟩ = some (.int .i64 used) ∧ (∀ k, w.frozen? ⟨b, k, none⟩ = false) ∧ b < w.heap.size := by
  obtain ⟨v, xs, hb, _⟩ := h.rows
  exact ⟨by rw [cell_of hb]; rfl, by rw [cell_of hb]; rfl, by rw [cell_of hb]; rfl, froz_of hb, heap_lt hb⟩
theorem SlF.use {w : World} {B b : Nat} {room used : Int} {T : Nat → Th} {n : Nat} (h : SlF Yo w B b room used T n) (u : Int) (hu : 0 ≤ u ∧ u ≤ room) :
    SlF Yo (w.setCell ⟨b, 2, none⟩ (.int .i64 u)) B b room u T n ∧ FrF Yo B b w (w.setCell ⟨b, 2, none⟩ (.int .i64 u)) := by
  obtain ⟨v, xs, hb, hv, hx⟩ := h.rows
  have hb3 := heap_setCell_same w b 2 _ _ (.int .i64 u) hb
  refine ⟨⟨h.bB, h.nb, h.rm, hu, ⟨v, xs, by simpa using hb3, ?_, hx⟩, h.out, fun t hh bs ht => ?_, h.apart, h.off.go (by simp) (by simpa using hb3) (h.offr hb) h.off.2.2.1⟩, (FrF.refl (Yo := Yo) B b w).set hb (.inl rfl) h.bB h.off.2.1 2 _⟩
  · refine ⟨hv.1, ?_⟩
    rcases hv.2 with e | ⟨g, cap, cur, e, a1, a2, a3⟩
    · exact .inl e
    · refine .inr ⟨g, cap, cur, e, a1, heap_set a2 ?_, a3⟩
      rintro rfl
      rw [hb] at a2
      cases a2
  · obtain ⟨a1, a2, a3, a4, a5⟩ := h.th t hh bs ht
    refine ⟨a1, heap_set a2 ?_, a3, a4, a5⟩
    rintro rfl
    rw [hb] at a2
    simp at a2
theorem new_any (room : Int) (hr : 0 ≤ room ∧ room ≤ 65536) (w : World) (hY : ∀ k, Yo k → k < w.heap.size) : Calls Tryd.prog 29 #[.int .i64 room] w fun e w' => e = .returned (.tuple #[.pointer (some ⟨w.heap.size, 0, none⟩), .int .i64 0]) ∧ SlF Yo w' w.heap.size w.heap.size room 0 (fun _ => none) 0 ∧ Below w.heap.size w w' := by
  obtain ⟨h0, h1⟩ := hr
  go_enter Tryd.func29, Tryd.ntmps29
  go_wp2
  all_goals go_returns
  refine ⟨rfl, ⟨Nat.le_refl _, by omega, ⟨h0, h1⟩, ⟨by omega, h0⟩, ⟨.slice none 0 0, [], heap_alloc_new w _, ⟨by simp, .inl ⟨rfl, rfl⟩⟩, ⟨by simp, by intro i j hi; omega, by intro i hi; omega⟩⟩, fun _ _ => rfl, (by intro s h bs e; cases e), (by intro s t h bs cs e; cases e), ⟨fun k hk => (by simp; have := hY k hk; omega), fun q => absurd (hY _ q) (Nat.lt_irrefl _), (by intro s h bs e; cases e), fun cs z v e e3 g hg => (by rw [heap_alloc_new] at e; cases e; simp at e3; subst e3; cases hg)⟩⟩, (Below.refl _ w).alloc (Nat.le_refl _) _⟩
theorem new_bad (room : Int) (hr : room < 0 ∨ 65536 < room) (w : World) : Calls Tryd.prog 29 #[.int .i64 room] w fun e w' => e = .returned (.tuple #[.pointer none, .int .i64 2]) ∧ w' = w := by
  by_cases h0 : room < 0
  · go_enter Tryd.func29, Tryd.ntmps29
    go_wp2
    all_goals go_returns
    all_goals exact ⟨rfl, rfl⟩
  · have h1 : 65536 < room := by omega
    go_enter Tryd.func29, Tryd.ntmps29
    go_wp2
    all_goals go_returns
    all_goals exact ⟨rfl, rfl⟩
theorem used_any (w : World) (B b : Nat) (room used : Int) (T : Nat → Th) (n : Nat) (h : SlF Yo w B b room used T n) : Calls Tryd.prog 42 #[.pointer (some ⟨b, 0, none⟩)] w fun e w' => e = .returned (.int .i64 used) ∧ w' = w := by
  obtain ⟨c0, c1, c2, -, -⟩ := h.cells
  have k1 := made_yes w b c0
  go_enter Tryd.func42, Tryd.ntmps42
  go_wp2_with (go_at_call 54; refine k1.mono ?_; rintro e w' ⟨rfl, hw⟩; rw [hw]; clear hw)
  all_goals go_returns
  all_goals exact ⟨rfl, rfl⟩
theorem room_any (w : World) (B b : Nat) (room used : Int) (T : Nat → Th) (n : Nat) (h : SlF Yo w B b room used T n) : Calls Tryd.prog 44 #[.pointer (some ⟨b, 0, none⟩)] w fun e w' => e = .returned (.int .i64 room) ∧ w' = w := by
  obtain ⟨c0, c1, c2, -, -⟩ := h.cells
  have k1 := made_yes w b c0
  go_enter Tryd.func44, Tryd.ntmps44
  go_wp2_with (go_at_call 54; refine k1.mono ?_; rintro e w' ⟨rfl, hw⟩; rw [hw]; clear hw)
  all_goals go_returns
  all_goals exact ⟨rfl, rfl⟩
def szOf : Th → Int
  | none => 0
  | some (_, bs) => bs.length
theorem size_any (w : World) (B b : Nat) (room used : Int) (T : Nat → Th) (n : Nat) (h : SlF Yo w B b room used T n) (s : Int) (hs : I64 s) : Calls Tryd.prog 69 #[.pointer (some ⟨b, 0, none⟩), .int .i64 s] w fun e w' => e = .returned (.tuple #[.int .i64 (szOf (getT T s)), .bool (getT T s).isSome]) ∧ w' = w := by
  obtain ⟨c0, c1, c2, -, -⟩ := h.cells
  have k1 := made_yes w b c0
  have k2 := thing_any w B b room used T n h s hs
  cases hg : getT T s with
  | none =>
    rw [hg] at k2
    unfold thV at k2
    go_enter Tryd.func69, Tryd.ntmps69
    go_wp2_with (first | (go_at_call 54; refine k1.mono ?_; rintro e w' ⟨rfl, hw⟩; rw [hw]; clear hw) | (go_at_call 78; refine k2.mono ?_; rintro e w' ⟨rfl, hw⟩; rw [hw]; clear hw))
    all_goals go_returns
    all_goals exact ⟨rfl, rfl⟩
  | some x =>
    obtain ⟨hh, bs⟩ := x
    rw [hg] at k2
    unfold thV at k2
    have hl : 1 ≤ bs.length := by
      unfold getT at hg
      split at hg
      · cases hg
      · exact (h.th _ _ _ hg).2.2.1
    have hd : decide ((0 : Int) < bs.length) = true := by simp; omega
    go_enter Tryd.func69, Tryd.ntmps69
    go_wp2_with (first | (go_at_call 54; refine k1.mono ?_; rintro e w' ⟨rfl, hw⟩; rw [hw]; clear hw) | (go_at_call 78; refine k2.mono ?_; rintro e w' ⟨rfl, hw⟩; rw [hw]; clear hw))
    all_goals go_returns
    all_goals exact ⟨by simp [szOf]; omega, rfl⟩
theorem take_nil (s : Int) (w : World) : Calls Tryd.prog 32 #[.pointer none, .int .i64 s] w fun e w' => e = .returned (.tuple #[.int .i64 0, .int .i64 1]) ∧ w' = w := by
  have k1 := made_nil w
  go_enter Tryd.func32, Tryd.ntmps32
  go_wp2_with (go_at_call 54; refine k1.mono ?_; rintro e w' ⟨rfl, hw⟩; rw [hw]; clear hw)
  all_goals go_returns
  all_goals exact ⟨rfl, rfl⟩
theorem give_nil (s : Int) (w : World) : Calls Tryd.prog 51 #[.pointer none, .int .i64 s] w fun e w' => e = .returned (.int .i64 1) ∧ w' = w := by
  have k1 := made_nil w
  go_enter Tryd.func51, Tryd.ntmps51
  go_wp2_with (go_at_call 54; refine k1.mono ?_; rintro e w' ⟨rfl, hw⟩; rw [hw]; clear hw)
  all_goals go_returns
  all_goals exact ⟨rfl, rfl⟩
theorem size_nil (s : Int) (w : World) : Calls Tryd.prog 69 #[.pointer none, .int .i64 s] w fun e w' => e = .returned (.tuple #[.int .i64 0, .bool false]) ∧ w' = w := by
  have k1 := made_nil w
  go_enter Tryd.func69, Tryd.ntmps69
  go_wp2_with (go_at_call 54; refine k1.mono ?_; rintro e w' ⟨rfl, hw⟩; rw [hw]; clear hw)
  all_goals go_returns
  all_goals exact ⟨rfl, rfl⟩
theorem used_nil (w : World) : Calls Tryd.prog 42 #[.pointer none] w fun e w' => e = .returned (.int .i64 0) ∧ w' = w := by
  have k1 := made_nil w
  go_enter Tryd.func42, Tryd.ntmps42
  go_wp2_with (go_at_call 54; refine k1.mono ?_; rintro e w' ⟨rfl, hw⟩; rw [hw]; clear hw)
  all_goals go_returns
  all_goals exact ⟨rfl, rfl⟩
theorem room_nil (w : World) : Calls Tryd.prog 44 #[.pointer none] w fun e w' => e = .returned (.int .i64 0) ∧ w' = w := by
  have k1 := made_nil w
  go_enter Tryd.func44, Tryd.ntmps44
  go_wp2_with (go_at_call 54; refine k1.mono ?_; rintro e w' ⟨rfl, hw⟩; rw [hw]; clear hw)
  all_goals go_returns
  all_goals exact ⟨rfl, rfl⟩
theorem part_nil (s a m : Int) (w : World) : Calls Tryd.prog 71 #[.pointer none, .int .i64 s, .int .i64 a, .int .i64 m] w fun e w' => e = .returned (.tuple #[.slice none 0 0, .int .i64 1]) ∧ w' = w := by
  have k1 := made_nil w
  go_enter Tryd.func71, Tryd.ntmps71
  go_wp2_with (go_at_call 54; refine k1.mono ?_; rintro e w' ⟨rfl, hw⟩; rw [hw]; clear hw)
  all_goals go_returns
  all_goals exact ⟨rfl, rfl⟩
end Go.Proofs.YtooblonafnlfcaaDoor
