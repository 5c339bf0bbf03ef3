/- Towards the statements of package heap (layer 14): counts; object. -/
import Derived.Test.YtooblonafnlfcaaDoorPA
namespace Go.Proofs.YtooblonafnlfcaaDoor
open Go.ChangeShapes Go.WideShapes Go.ChangeAt Go.RowKit
set_option linter.unusedVariables false
set_option linter.unusedSimpArgs false
set_option maxRecDepth 20000
variable {Yo : Nat → Prop}
theorem held_any (w : World) (a : Nat) (c : Int) (h0 : w.cell? ⟨a, 0, none⟩ = some (.int .i64 c)) : Calls Tryd.prog 48 #[.pointer (some ⟨a, 0, none⟩)] w fun e w' => e = .returned (.bool (decide (0 < c))) ∧ w' = w := by
  go_enter Tryd.func48, Tryd.ntmps48
  go_wp2
  all_goals go_returns
  all_goals exact ⟨rfl, rfl⟩
theorem hold0 (w : World) (a : Nat) (c : Int) (h0 : w.cell? ⟨a, 0, none⟩ = some (.int .i64 c)) (hf : w.frozen? ⟨a, 0, none⟩ = false) (hc : 0 ≤ c ∧ c ≤ 100000) (h1 : (w.setCell ⟨a, 0, none⟩ (.int .i64 (c + 1))).cell? ⟨a, 0, none⟩ = some (.int .i64 (c + 1))) :
    Calls Tryd.prog 46 #[.pointer (some ⟨a, 0, none⟩)] w fun e w' => e = .returned (.int .i64 (c + 1)) ∧ w' = w.setCell ⟨a, 0, none⟩ (.int .i64 (c + 1)) := by
  have hw : IntKind.i64.wrap (c + 1) = c + 1 := IntWalk.i64_in _ (by omega)
  go_enter Tryd.func46, Tryd.ntmps46
  go_upto_region 2 with fail
  generalize hW : w.setCell ⟨a, 0, none⟩ (.int .i64 (c + 1)) = W at h1 ⊢
  clear h0 hf
  go_wp2
  all_goals go_returns
  all_goals exact ⟨rfl, hW.symm⟩
theorem drop0 (w : World) (a : Nat) (h0 : w.cell? ⟨a, 0, none⟩ = some (.int .i64 0)) :
    Calls Tryd.prog 47 #[.pointer (some ⟨a, 0, none⟩)] w fun e w' => e = .returned (.tuple #[.int .i64 0, .int .i64 3]) ∧ w' = w := by
  have k1 := held_any w a 0 h0
  go_enter Tryd.func47, Tryd.ntmps47
  go_wp2_with (go_at_call 48; refine k1.mono ?_; rintro e w' ⟨rfl, hw⟩; rw [hw]; clear hw)
  all_goals go_returns
  all_goals exact ⟨rfl, rfl⟩
theorem drop1 (w : World) (a : Nat) (c : Int) (h0 : w.cell? ⟨a, 0, none⟩ = some (.int .i64 c)) (hf : w.frozen? ⟨a, 0, none⟩ = false) (hc : 0 < c ∧ c ≤ 100000) (h1 : (w.setCell ⟨a, 0, none⟩ (.int .i64 (c - 1))).cell? ⟨a, 0, none⟩ = some (.int .i64 (c - 1))) :
    Calls Tryd.prog 47 #[.pointer (some ⟨a, 0, none⟩)] w fun e w' => e = .returned (.tuple #[.int .i64 (c - 1), .int .i64 0]) ∧ w' = w.setCell ⟨a, 0, none⟩ (.int .i64 (c - 1)) := by
  have hw : IntKind.i64.wrap (c - 1) = c - 1 := IntWalk.i64_in _ (by omega)
  have k1 := held_any w a c h0
  rw [decide_eq_true hc.1] at k1
  go_enter Tryd.func47, Tryd.ntmps47
  go_upto_region 4 with (go_at_call 48; refine k1.mono ?_; rintro e w' ⟨rfl, hw⟩; rw [hw]; clear hw)
  generalize hW : w.setCell ⟨a, 0, none⟩ (.int .i64 (c - 1)) = W at h1 ⊢
  clear h0 hf k1
  go_wp2
  all_goals go_returns
  all_goals exact ⟨rfl, hW.symm⟩
theorem object_nil (s g : Int) (w : World) : Calls Tryd.prog 41 #[.pointer none, .agg #[.int .i64 s, .int .u64 g]] w fun e w' => e = .returned (.tuple #[.pointer none, .int .i64 1]) ∧ Below w.heap.size w w' := by
  have k1 := fun W => hmade_nil W
  go_enter Tryd.func41, Tryd.ntmps41
  go_wp2_with (go_at_call 31; refine (k1 _).mono ?_; rintro e w' ⟨rfl, hw⟩; rw [hw]; clear hw)
  all_goals go_returns
  all_goals exact ⟨rfl, (Below.refl _ w).alloc (Nat.le_refl _) _⟩
theorem lOf_nat (M : MJ) (k : Nat) : lOf M k = (M k).map (·.g) := by unfold lOf; rw [getM_nat]
theorem live_at {M : MJ} {s : Int} {g : Nat} (h : (lOf M s == some g) = true) : ∃ k o, s = ((k : Nat) : Int) ∧ M k = some o ∧ o.g = g := by
  unfold lOf getM at h
  by_cases e : s < 0
  · rw [if_pos e] at h; simp at h
  · rw [if_neg e] at h
    cases ho : M s.toNat with
    | none => rw [ho] at h; simp at h
    | some o =>
      rw [ho] at h
      simp at h
      exact ⟨s.toNat, o, by omega, ho, h⟩
theorem live_of {M : MJ} {k : Nat} {o : Oj} (h : M k = some o) : (lOf M k == some o.g) = true := by rw [lOf_nat, h]; simp
set_option maxHeartbeats 1000000 in
theorem object_no (w : World) (B : Nat) (q : HQ) (room used : Int) (N : Int → Nat) (M : MJ) (ns : Nat) (A K : Nat → Nat) (n : Nat) (h : Hp Yo w B q room used N M ns A K n) (s : Int) (g : Nat) (hL : (lOf M s == some g) = false) :
    Calls Tryd.prog 41 #[.pointer (some ⟨q.b, 0, none⟩), .agg #[.int .i64 s, .int .u64 g]] w fun e w' => e = .returned (.tuple #[.pointer none, .int .i64 130]) ∧ Below w.heap.size w w' := by
  have h1 := h.kept ((Below.refl _ w).alloc (Nat.le_refl _) (.cells #[.int .i64 s, .int .u64 g] 34))
  have hc := h1.ow.cells
  have hz := heap_alloc_new w (.cells #[.int .i64 s, .int .u64 g] 34)
  have hbe := (Below.refl w.heap.size w).alloc (Nat.le_refl _) (.cells #[.int .i64 s, .int .u64 g] 34)
  generalize hW : w.alloc (.cells #[.int .i64 s, .int .u64 g] 34) = W at h1 hc hz hbe
  have c2 : W.cell? ⟨q.b, 2, none⟩ = some (.map (some q.m3)) := by rw [cell_of hc]; rfl
  have k1 := hmade_yes W q.b q.m3 c2
  have kL := fun p : BlBy W => H.lives_any p.wo _ _ _ _ _ _ _ (h1.tb.below p.bl) s g
  rw [hL] at kL
  have c1 := fun p : BlBy W => (show p.wo.cell? ⟨q.b, 1, none⟩ = some (.pointer (some ⟨q.t, 0, none⟩)) by rw [cell_of ((p.bl.block _ (heap_lt hc)).trans hc)]; rfl)
  have z0 := fun p : BlBy W => (show p.wo.cell? ⟨w.heap.size, 0, none⟩ = some (.int .i64 s) by rw [cell_of ((p.bl.block _ (heap_lt hz)).trans hz)]; rfl)
  have z1 := fun p : BlBy W => (show p.wo.cell? ⟨w.heap.size, 1, none⟩ = some (.int .u64 g) by rw [cell_of ((p.bl.block _ (heap_lt hz)).trans hz)]; rfl)
  go_enter Tryd.func41, Tryd.ntmps41
  go_upto_region 3 with (go_at_call 31; refine k1.mono ?_; rintro e w' ⟨rfl, hw⟩; rw [hw]; clear hw)
  have hne : Nonempty (BlBy W) := ⟨⟨W, Below.refl _ W⟩⟩
  refine wp_region_bl (by kernel_rfl) (by kernel_rfl) ?_
  repeat (first
    | go_big_quiet_skip
    | (go_big_quiet_want; go_big_quiet_op; first
      | go_big_quiet_on
      | (apply Exists.intro
         refine ⟨fun p => ?_, ?_⟩
         · (go_at_call 66; exact calls_bl (kL p))
         go_big_quiet_on)))
  refine wpQuiet_nil ?_
  intro wq hw'
  obtain ⟨⟨wq2, hq⟩, e⟩ := hw'
  simp only at e
  subst e
  go_wp2
  all_goals go_returns
  all_goals exact ⟨rfl, hbe.trans (hq.mono hbe.size)⟩
set_option maxHeartbeats 1000000 in
theorem object_yes (w : World) (B : Nat) (q : HQ) (room used : Int) (N : Int → Nat) (M : MJ) (ns : Nat) (A K : Nat → Nat) (n : Nat) (h : Hp Yo w B q room used N M ns A K n) (k : Nat) (o : Oj) (hM : M k = some o) :
    Calls Tryd.prog 41 #[.pointer (some ⟨q.b, 0, none⟩), .agg #[.int .i64 k, .int .u64 o.g]] w fun e w' => e = .returned (.tuple #[.pointer (some ⟨A k, 0, none⟩), .int .i64 0]) ∧ Below w.heap.size w w' := by
  have h1 := h.kept ((Below.refl _ w).alloc (Nat.le_refl _) (.cells #[.int .i64 k, .int .u64 o.g] 34))
  have hc := h1.ow.cells
  have hz := heap_alloc_new w (.cells #[.int .i64 k, .int .u64 o.g] 34)
  have hbe := (Below.refl w.heap.size w).alloc (Nat.le_refl _) (.cells #[.int .i64 k, .int .u64 o.g] 34)
  generalize hW : w.alloc (.cells #[.int .i64 k, .int .u64 o.g] 34) = W at h1 hc hz hbe
  have c2 : W.cell? ⟨q.b, 2, none⟩ = some (.map (some q.m3)) := by rw [cell_of hc]; rfl
  have k1 := hmade_yes W q.b q.m3 c2
  have kL := fun p : BlBy W => H.lives_any p.wo _ _ _ _ _ _ _ (h1.tb.below p.bl) k o.g
  rw [live_of hM] at kL
  have c1 := fun p : BlBy W => (show p.wo.cell? ⟨q.b, 1, none⟩ = some (.pointer (some ⟨q.t, 0, none⟩)) by rw [cell_of ((p.bl.block _ (heap_lt hc)).trans hc)]; rfl)
  have z0 := fun p : BlBy W => (show p.wo.cell? ⟨w.heap.size, 0, none⟩ = some (.int .i64 k) by rw [cell_of ((p.bl.block _ (heap_lt hz)).trans hz)]; rfl)
  have z1 := fun p : BlBy W => (show p.wo.cell? ⟨w.heap.size, 1, none⟩ = some (.int .u64 o.g) by rw [cell_of ((p.bl.block _ (heap_lt hz)).trans hz)]; rfl)
  go_enter Tryd.func41, Tryd.ntmps41
  go_upto_region 3 with (go_at_call 31; refine k1.mono ?_; rintro e w' ⟨rfl, hw⟩; rw [hw]; clear hw)
  have hne : Nonempty (BlBy W) := ⟨⟨W, Below.refl _ W⟩⟩
  refine wp_region_bl (by kernel_rfl) (by kernel_rfl) ?_
  repeat (first
    | go_big_quiet_skip
    | (go_big_quiet_want; go_big_quiet_op; first
      | go_big_quiet_on
      | (apply Exists.intro
         refine ⟨fun p => ?_, ?_⟩
         · (go_at_call 66; exact calls_bl (kL p))
         go_big_quiet_on)))
  refine wpQuiet_nil ?_
  intro wq hw'
  obtain ⟨⟨wq2, hq⟩, e⟩ := hw'
  simp only at e
  subst e
  have h2 := h1.kept hq
  have hc2 := h2.ow.cells
  have d2 : wq.cell? ⟨q.b, 2, none⟩ = some (.map (some q.m3)) := by rw [cell_of hc2]; rfl
  have y0 : wq.cell? ⟨w.heap.size, 0, none⟩ = some (.int .i64 k) := by rw [cell_of ((hq.block _ (heap_lt hz)).trans hz)]; rfl
  have lk := fun (z : Value) (W2 : World) (e : W2.heap = wq.heap) hz => IM.look1 (w := W2) Tryd.underlying75 Tryd.underlying3 (h2.ow.im.keep (by rw [e])) (k : Int) (z := z) hz
  have zz : ∀ W2 : World, (zeroValue 83).run Tryd.prog W2 = .ok (.pointer none) W2 := fun W2 => by kernel_rfl
  have lk2 := fun W2 e => lk _ W2 e (zz W2)
  rw [show pOf M A k = some (.pointer (some ⟨A k, 0, none⟩)) by unfold pOf; rw [getM_nat, hM]; rfl] at lk2
  simp only [Option.getD_some] at lk2
  have lk3 := lk2 wq rfl
  have lk4 := lk2 wq.drew rfl
  clear lk lk2 zz c1 z0 z1 kL k1 c2 hc hc2
  go_upto_region 5 with fail
  go_region
  go_wp2
  all_goals go_returns
  all_goals exact ⟨rfl, (hbe.trans (hq.mono hbe.size)).drew⟩
end Go.Proofs.YtooblonafnlfcaaDoor
