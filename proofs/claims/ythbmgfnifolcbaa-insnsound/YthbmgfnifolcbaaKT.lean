/- Towards the statements of package insn (layer 7): slices.Sort and slices.Compact at two bytes at most: contracts. -/
import Derived.Test.YthbmgfnifolcbaaKS
import Derived.Test.YthbmgfnifolcbaaKE
import Derived.Deep.RegionHeld3
namespace Go.Proofs.Ythbmgfnifolcbaa
open Go.ChangeShapes Go.WideShapes Go.ChangeAt Go.RowKit
set_option linter.unusedVariables false
set_option linter.unusedSimpArgs false

theorem nan_any (x : Int) (w : World) : Calls Try.prog 84 #[.int .u8 x] w fun e w' => e = .returned (.bool false) ∧ w' = w := by
  go_enter Try.func84, Try.ntmps84
  go_wp2
  all_goals go_ret
  all_goals exact ⟨rfl, rfl⟩
theorem less_any (x y : Int) (w : World) : Calls Try.prog 74 #[.int .u8 x, .int .u8 y] w fun e w' => e = .returned (.bool (decide (x < y))) ∧ w' = w := by
  go_enter Try.func74, Try.ntmps74
  go_wp2_with (first | (go_at_call 84; refine (nan_any _ _).mono ?_; rintro e w' ⟨rfl, hw⟩; rw [hw]; clear hw w'))
  all_goals go_ret
  all_goals exact ⟨rfl, rfl⟩
/-- A row of two bytes at g. -/
def R2 (w : World) (g : Nat) (x y : Int) : Prop := ∃ cur : Array Value, w.heap[g]? = some (.cells cur 5 (0, 0)) ∧ cur[0]? = some (.int .u8 x) ∧ cur[1]? = some (.int .u8 y)
/-- Block g alone may have turned. -/
structure GX (g : Nat) (w w' : World) : Prop where
  os : w'.os = w.os
  tape : w'.tape = w.tape
  output : w'.output = w.output
  size : w.heap.size ≤ w'.heap.size
  block : ∀ k, k < w.heap.size → k ≠ g → w'.heap[k]? = w.heap[k]?
section
variable {w w' w'' : World} {g : Nat} {x y z : Int}
theorem R2.c0 (h : R2 w g x y) : w.cell? ⟨g, 0, none⟩ = some (.int .u8 x) := by obtain ⟨c, h1, h2, h3⟩ := h; simp [World.cell?, h1, h2]
theorem R2.c1 (h : R2 w g x y) : w.cell? ⟨g, 1, none⟩ = some (.int .u8 y) := by obtain ⟨c, h1, h2, h3⟩ := h; simp [World.cell?, h1, h3]
theorem R2.f (h : R2 w g x y) (k : Nat) : w.frozen? ⟨g, k, none⟩ = false := by obtain ⟨c, h1, h2, h3⟩ := h; simp [World.frozen?, h1]
theorem R2.drewN (h : R2 w g x y) (n : Nat) : R2 (w.drewN n) g x y := h
theorem R2.set0 (h : R2 w g x y) : R2 (w.setCell ⟨g, 0, none⟩ (.int .u8 z)) g z y := by
  obtain ⟨c, h1, h2, h3⟩ := h
  refine ⟨c.setIfInBounds 0 (.int .u8 z), ?_, ?_, ?_⟩
  · simp [World.setCell, Array.getElem?_modify, h1]
  · have : 0 < c.size := by rcases Nat.lt_or_ge 0 c.size with h | h; exact h; rw [Array.getElem?_eq_none h] at h2; cases h2
    simp [this]
  · simp [h3]
theorem R2.set1 (h : R2 w g x y) : R2 (w.setCell ⟨g, 1, none⟩ (.int .u8 z)) g x z := by
  obtain ⟨c, h1, h2, h3⟩ := h
  refine ⟨c.setIfInBounds 1 (.int .u8 z), ?_, ?_, ?_⟩
  · simp [World.setCell, Array.getElem?_modify, h1]
  · simp [h2]
  · have : 1 < c.size := by rcases Nat.lt_or_ge 1 c.size with h | h; exact h; rw [Array.getElem?_eq_none h] at h3; cases h3
    simp [this]
theorem GX.refl (g : Nat) (w : World) : GX g w w := ⟨rfl, rfl, rfl, Nat.le_refl _, fun _ _ _ => rfl⟩
theorem GX.trans (h : GX g w w') (k : GX g w' w'') : GX g w w'' := ⟨k.os.trans h.os, k.tape.trans h.tape, k.output.trans h.output, Nat.le_trans h.size k.size, fun i hi hg => (k.block i (Nat.lt_of_lt_of_le hi h.size) hg).trans (h.block i hi hg)⟩
theorem GX.drewN (h : GX g w w') (n : Nat) : GX g w (w'.drewN n) := ⟨h.os, h.tape, h.output, h.size, h.block⟩
theorem GX.set (h : GX g w w') (k : Nat) (v : Value) : GX g w (w'.setCell ⟨g, k, none⟩ v) :=
  h.trans ⟨rfl, rfl, rfl, by simp [World.setCell], fun i _ hg => Below.heap_setCell _ _ _ _ (by simpa using hg)⟩
theorem GX.gr (h : Gr w w') (g : Nat) : GX g w w' := ⟨h.below.os, h.below.tape, h.below.output, h.below.size, fun k hk _ => h.below.block k hk⟩
theorem GX.below {B : Nat} (h : GX g w w') (hb : B ≤ g) (hs : B ≤ w.heap.size) : Below B w w' := ⟨h.os, h.tape, h.output, h.size, fun k hk => h.block k (by omega) (by omega)⟩
end
/-- The insertion sort of a row of two that lies at g. -/

theorem ins2_swap (g cap : Nat) (x y : Int) (w : World) (hr : R2 w g x y) (h : decide (y < x) = true) :
    Calls Try.prog 68 #[.slice (some ⟨g, 0, none⟩) 2 cap, .int .i64 0, .int .i64 2] w fun e w' => (∃ v, e = .returned v) ∧ R2 w' g y x ∧ GX g w w' := by
  have c0 := hr.c0
  have c1 := hr.c1
  have f0 := hr.f 0
  have f1 := hr.f 1
  go_enter Try.func68, Try.ntmps68
  go_wp2
  refine wp_loop_rounds 3 ?_
  rw [rounds_succ]
  go_wp2
  refine wp_loop_rounds 3 ?_
  rw [rounds_succ]
  go_upto_region 4 with fail
  go_quiet (first | (go_at_call 74; exact Calls.quiet_of_same (less_any _ _ _)))
  replace hr := hr.drewN nq
  have hx : GX g w (w.drewN nq) := (GX.refl g w).drewN nq
  clear c0 c1 f0 f1
  generalize w.drewN nq = W at hr hx ⊢
  have c0 := hr.c0
  have c1 := hr.c1
  have f0 := hr.f 0
  have f1 := hr.f 1
  go_upto_region 6 with fail
  go_region
  replace hx : GX g w ((W.setCell ⟨g, 1, none⟩ (.int .u8 x)).setCell ⟨g, 0, none⟩ (.int .u8 y)).drew := ((hx.set 1 _).set 0 _).drewN 1
  replace hr : R2 ((W.setCell ⟨g, 1, none⟩ (.int .u8 x)).setCell ⟨g, 0, none⟩ (.int .u8 y)).drew g y x := (hr.set1.set0).drewN 1
  clear c0 c1 f0 f1
  generalize ((W.setCell ⟨g, 1, none⟩ (.int .u8 x)).setCell ⟨g, 0, none⟩ (.int .u8 y)).drew = W2 at hr hx ⊢
  go_wp2
  rw [rounds_succ]
  go_upto_region 4 with fail
  go_quiet (fail)
  replace hr := hr.drewN nq
  replace hx := hx.drewN nq
  generalize W2.drewN nq = W3 at hr hx ⊢
  go_wp2
  rw [rounds_succ]
  go_wp2

  go_returns
  exact ⟨⟨_, rfl⟩, hr, hx⟩
theorem ins2_keep (g cap : Nat) (x y : Int) (w : World) (hr : R2 w g x y) (h : decide (y < x) = false) :
    Calls Try.prog 68 #[.slice (some ⟨g, 0, none⟩) 2 cap, .int .i64 0, .int .i64 2] w fun e w' => (∃ v, e = .returned v) ∧ R2 w' g x y ∧ GX g w w' := by
  have c0 := hr.c0
  have c1 := hr.c1
  have f0 := hr.f 0
  have f1 := hr.f 1
  go_enter Try.func68, Try.ntmps68
  go_wp2
  refine wp_loop_rounds 3 ?_
  rw [rounds_succ]
  go_wp2
  refine wp_loop_rounds 3 ?_
  rw [rounds_succ]
  go_upto_region 4 with fail
  go_quiet (first | (go_at_call 74; exact Calls.quiet_of_same (less_any _ _ _)))
  replace hr := hr.drewN nq
  have hx : GX g w (w.drewN nq) := (GX.refl g w).drewN nq
  clear c0 c1 f0 f1
  generalize w.drewN nq = W at hr hx ⊢
  go_wp2
  rw [rounds_succ]
  go_wp2

  go_returns
  exact ⟨⟨_, rfl⟩, hr, hx⟩
theorem ins_few (a : Option Addr) (n cap : Nat) (hn : n ≤ 1) (w : World) : Calls Try.prog 68 #[.slice a n cap, .int .i64 0, .int .i64 n] w fun e w' => (∃ v, e = .returned v) ∧ w' = w := by
  go_enter Try.func68, Try.ntmps68
  go_wp2
  refine wp_loop_rounds 1 ?_
  rw [rounds_succ]
  go_wp2
  all_goals first | omega | skip
  go_returns
  exact ⟨⟨_, rfl⟩, rfl⟩
end Go.Proofs.Ythbmgfnifolcbaa
