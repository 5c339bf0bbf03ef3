/- Towards the statements of package slab (layer 12): Write that goes wrong; the statements' own fill. -/
import Derived.Test.YtooblonafnlfcaaDoorSM
namespace Go.Proofs.YtooblonafnlfcaaDoor
open Go.ChangeShapes Go.WideShapes Go.ChangeAt Go.RowKit
set_option linter.unusedVariables false
set_option linter.unusedSimpArgs false
set_option maxRecDepth 20000
variable {Yo : Nat → Prop}
theorem copy_nil (t : ByteArray) (w : World) : (Builtin.copy_ #[65, 9] 3 #[.slice none 0 0, .string t]).run Tryd.prog w = .ok (goInt 0) w := by
  obtain ⟨i5, hi, hz0, hz1, hz2⟩ := info_parts info5
  have hu : Tryd.prog.underlying 65 = some (.slice 5) := Tryd.underlying65
  simp [Builtin.copy_, run_underlying hu, Builtin.lenOf, Builtin.firstCells, sizeOf, typeInfo, hi, hz1, storeCells]
theorem write_bad (w : World) (B b : Nat) (room used : Int) (T : Nat → Th) (n : Nat) (h : SlF Yo w B b room used T n) (s : Int) (hs : I64 s) (a : Int) (t : ByteArray) (ha : I64 a) (ht : t.size ≤ maxLen) (c : Int) (hc : partE (getT T s) a t.size = c) (h0 : c ≠ 0) :
    Calls Tryd.prog 53 #[.pointer (some ⟨b, 0, none⟩), .int .i64 s, .int .i64 a, .string t] w fun e w' => e = .returned (.int .i64 c) ∧ w' = w := by
  have k1 := part_bad w B b room used T n h s hs a t.size ha (by unfold I64; simp only [maxLen] at ht; omega) c hc h0
  have hcv := copy_nil t w
  go_enter Tryd.func53, Tryd.ntmps53
  go_wp2_with (go_at_call 71; refine k1.mono ?_; rintro e w' ⟨rfl, hw⟩; rw [hw]; clear hw)
  all_goals go_returns
  all_goals exact ⟨rfl, rfl⟩
theorem byV_set (s i : Nat) (c : Int) (hi : i < s) : (byV (List.replicate i c ++ List.replicate (s - i) 0)).setIfInBounds i (.int .u8 c) = byV (List.replicate (i + 1) c ++ List.replicate (s - (i + 1)) 0) := by
  apply Array.toList_inj.1
  rw [Array.toList_setIfInBounds]
  simp only [byV, List.map_append, List.map_replicate]
  rw [List.set_append_right _ _ (by simp), List.length_replicate, Nat.sub_self, show s - i = (s - (i + 1)) + 1 by omega, List.replicate_succ, List.set_cons_zero, List.replicate_succ', List.append_assoc]
  rfl
end Go.Proofs.YtooblonafnlfcaaDoor
