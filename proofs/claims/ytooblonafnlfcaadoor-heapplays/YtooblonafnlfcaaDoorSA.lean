/- Towards the statements of package slab (layer 12): classes; what no slab answers. -/
import Derived.Test.YtooblonafnlfcaaDoorRows
import Derived.WalkKit
import Derived.ProofKit
import Derived.OpenShut
import Derived.Below
import Derived.Carry
import Derived.Deep.RegionHeld3
import Derived.Deep.DeepCutAuto
import Derived.Deep.RegionWith
import Derived.Laws.EntriesVeiled
import Derived.Handy
namespace Go.Proofs.YtooblonafnlfcaaDoor
open Go.ChangeShapes Go.WideShapes Go.ChangeAt Go.RowKit
set_option linter.unusedVariables false
set_option linter.unusedSimpArgs false
set_option maxRecDepth 20000
def I64 (x : Int) : Prop := -9223372036854775808 ≤ x ∧ x ≤ 9223372036854775807
/-- The table of classes. -/
structure Tab (w : World) : Prop where
  c0 : w.cell? ⟨0, 0, none⟩ = some (.int .i64 8)
  c1 : w.cell? ⟨0, 1, none⟩ = some (.int .i64 16)
  c2 : w.cell? ⟨0, 2, none⟩ = some (.int .i64 32)
  c3 : w.cell? ⟨0, 3, none⟩ = some (.int .i64 64)
  c4 : w.cell? ⟨0, 4, none⟩ = some (.int .i64 128)
theorem Tab.gr {B : Nat} {w w' : World} (h : Tab w) (hB : 0 < B) (hb : Below B w w') : Tab w' :=
  ⟨(hb.cell hB).trans h.c0, (hb.cell hB).trans h.c1, (hb.cell hB).trans h.c2, (hb.cell hB).trans h.c3, (hb.cell hB).trans h.c4⟩
/-- A size's class; 0: there is none. -/
def clsM (s : Int) : Int := if s < 1 then 0 else if s ≤ 8 then 8 else if s ≤ 16 then 16 else if s ≤ 32 then 32 else if s ≤ 64 then 64 else if s ≤ 128 then 128 else 0
theorem clsM_bd (s : Int) : 0 ≤ clsM s ∧ clsM s ≤ 128 := by unfold clsM; repeat (first | omega | split)
theorem clsM_pos (s : Int) : decide (0 < clsM s) = decide (1 ≤ s ∧ s ≤ 128) := by
  rw [decide_eq_decide]; unfold clsM; repeat (first | omega | split)
set_option maxHeartbeats 1000000 in
theorem class_any (s : Int) (w : World) (hT : Tab w) : Calls Tryd.prog 55 #[.int .i64 s] w fun e w' => e = .returned (.tuple #[.int .i64 (clsM s), .bool (decide (0 < clsM s))]) ∧ w' = w := by
  obtain ⟨h0, h1, h2, h3, h4⟩ := hT
  have i0 : (Instr.index 121 (.agg #[.int .i64 8, .int .i64 16, .int .i64 32, .int .i64 64, .int .i64 128]) (.int .i64 0)).run Tryd.prog w = .ok (.int .i64 8) w := by kernel_rfl
  have i1 : (Instr.index 121 (.agg #[.int .i64 8, .int .i64 16, .int .i64 32, .int .i64 64, .int .i64 128]) (.int .i64 1)).run Tryd.prog w = .ok (.int .i64 16) w := by kernel_rfl
  have i2 : (Instr.index 121 (.agg #[.int .i64 8, .int .i64 16, .int .i64 32, .int .i64 64, .int .i64 128]) (.int .i64 2)).run Tryd.prog w = .ok (.int .i64 32) w := by kernel_rfl
  have i3 : (Instr.index 121 (.agg #[.int .i64 8, .int .i64 16, .int .i64 32, .int .i64 64, .int .i64 128]) (.int .i64 3)).run Tryd.prog w = .ok (.int .i64 64) w := by kernel_rfl
  have i4 : (Instr.index 121 (.agg #[.int .i64 8, .int .i64 16, .int .i64 32, .int .i64 64, .int .i64 128]) (.int .i64 4)).run Tryd.prog w = .ok (.int .i64 128) w := by kernel_rfl
  unfold clsM
  by_cases k0 : s < 1
  · go_enter Tryd.func55, Tryd.ntmps55
    go_wp2
    all_goals go_returns
    all_goals (simp_all <;> omega)
  by_cases k1 : s ≤ 8
  · go_enter Tryd.func55, Tryd.ntmps55
    go_wp2
    go_rounds 7
    all_goals go_returns
    all_goals (simp_all <;> omega)
  by_cases k2 : s ≤ 16
  · go_enter Tryd.func55, Tryd.ntmps55
    go_wp2
    go_rounds 7
    all_goals go_returns
    all_goals (simp_all <;> omega)
  by_cases k3 : s ≤ 32
  · go_enter Tryd.func55, Tryd.ntmps55
    go_wp2
    go_rounds 7
    all_goals go_returns
    all_goals (simp_all <;> omega)
  by_cases k4 : s ≤ 64
  · go_enter Tryd.func55, Tryd.ntmps55
    go_wp2
    go_rounds 7
    all_goals go_returns
    all_goals (simp_all <;> omega)
  by_cases k5 : s ≤ 128
  · go_enter Tryd.func55, Tryd.ntmps55
    go_wp2
    go_rounds 7
    all_goals go_returns
    all_goals (simp_all <;> omega)
  · go_enter Tryd.func55, Tryd.ntmps55
    go_wp2
    go_rounds 7
    all_goals go_returns
    all_goals (simp_all <;> omega)
theorem made_nil (w : World) : Calls Tryd.prog 54 #[.pointer none] w fun e w' => e = .returned (.bool false) ∧ w' = w := by
  go_enter Tryd.func54, Tryd.ntmps54
  go_wp2
  all_goals go_returns
  all_goals exact ⟨rfl, rfl⟩
end Go.Proofs.YtooblonafnlfcaaDoor
