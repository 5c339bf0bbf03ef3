/- Towards the statements of package heap (layer 14): what none answers; New; Make. -/
import Derived.Test.YtooblonafnlfcaaDoorPD
namespace Go.Proofs.YtooblonafnlfcaaDoor
open Go.ChangeShapes Go.WideShapes Go.ChangeAt Go.RowKit
set_option linter.unusedVariables false
set_option linter.unusedSimpArgs false
set_option maxRecDepth 20000
variable {Yo : Nat → Prop}
theorem count_nil (s g : Int) (w : World) : Calls Tryd.prog 16 #[.pointer none, .agg #[.int .i64 s, .int .u64 g]] w fun e w' => e = .returned (.tuple #[.int .i64 0, .bool false]) ∧ Below w.heap.size w w' := by
  have hbe := (Below.refl w.heap.size w).alloc (Nat.le_refl _) (.cells #[.int .i64 s, .int .u64 g] 34)
  have k1 := object_nil s g (w.alloc (.cells #[.int .i64 s, .int .u64 g] 34))
  go_enter Tryd.func16, Tryd.ntmps16
  go_wp2_with (go_at_call 41; refine k1.mono ?_; rintro e w1 ⟨rfl, hb⟩)
  all_goals go_returns
  all_goals exact ⟨rfl, hbe.trans (hb.mono hbe.size)⟩
theorem kind_nil (s g : Int) (w : World) : Calls Tryd.prog 17 #[.pointer none, .agg #[.int .i64 s, .int .u64 g]] w fun e w' => e = .returned (.tuple #[.int .i64 0, .bool false]) ∧ Below w.heap.size w w' := by
  have hbe := (Below.refl w.heap.size w).alloc (Nat.le_refl _) (.cells #[.int .i64 s, .int .u64 g] 34)
  have k1 := object_nil s g (w.alloc (.cells #[.int .i64 s, .int .u64 g] 34))
  go_enter Tryd.func17, Tryd.ntmps17
  go_wp2_with (go_at_call 41; refine k1.mono ?_; rintro e w1 ⟨rfl, hb⟩)
  all_goals go_returns
  all_goals exact ⟨rfl, hbe.trans (hb.mono hbe.size)⟩
theorem hold_nil (s g : Int) (w : World) : Calls Tryd.prog 23 #[.pointer none, .agg #[.int .i64 s, .int .u64 g]] w fun e w' => e = .returned (.tuple #[.int .i64 0, .int .i64 1]) ∧ Below w.heap.size w w' := by
  have hbe := (Below.refl w.heap.size w).alloc (Nat.le_refl _) (.cells #[.int .i64 s, .int .u64 g] 34)
  have k1 := object_nil s g (w.alloc (.cells #[.int .i64 s, .int .u64 g] 34))
  go_enter Tryd.func23, Tryd.ntmps23
  go_wp2_with (go_at_call 41; refine k1.mono ?_; rintro e w1 ⟨rfl, hb⟩)
  all_goals go_returns
  all_goals exact ⟨rfl, hbe.trans (hb.mono hbe.size)⟩
theorem hdrop_nil (s g : Int) (w : World) : Calls Tryd.prog 24 #[.pointer none, .agg #[.int .i64 s, .int .u64 g]] w fun e w' => e = .returned (.tuple #[.int .i64 0, .int .i64 1]) ∧ Below w.heap.size w w' := by
  have hbe := (Below.refl w.heap.size w).alloc (Nat.le_refl _) (.cells #[.int .i64 s, .int .u64 g] 34)
  have k1 := object_nil s g (w.alloc (.cells #[.int .i64 s, .int .u64 g] 34))
  go_enter Tryd.func24, Tryd.ntmps24
  go_wp2_with (go_at_call 41; refine k1.mono ?_; rintro e w1 ⟨rfl, hb⟩)
  all_goals go_returns
  all_goals exact ⟨rfl, hbe.trans (hb.mono hbe.size)⟩
theorem free_nil (s g : Int) (w : World) : Calls Tryd.prog 25 #[.pointer none, .agg #[.int .i64 s, .int .u64 g]] w fun e w' => e = .returned (.int .i64 1) ∧ Below w.heap.size w w' := by
  have hbe := (Below.refl w.heap.size w).alloc (Nat.le_refl _) (.cells #[.int .i64 s, .int .u64 g] 34)
  have k1 := object_nil s g (w.alloc (.cells #[.int .i64 s, .int .u64 g] 34))
  go_enter Tryd.func25, Tryd.ntmps25
  go_wp2_with (go_at_call 41; refine k1.mono ?_; rintro e w1 ⟨rfl, hb⟩)
  all_goals go_returns
  all_goals exact ⟨rfl, hbe.trans (hb.mono hbe.size)⟩
theorem hread_nil (s g a m : Int) (w : World) : Calls Tryd.prog 26 #[.pointer none, .agg #[.int .i64 s, .int .u64 g], .int .i64 a, .int .i64 m] w fun e w' => e = .returned (.tuple #[.string ⟨#[]⟩, .int .i64 1]) ∧ Below w.heap.size w w' := by
  have hbe := (Below.refl w.heap.size w).alloc (Nat.le_refl _) (.cells #[.int .i64 s, .int .u64 g] 34)
  have k1 := object_nil s g (w.alloc (.cells #[.int .i64 s, .int .u64 g] 34))
  go_enter Tryd.func26, Tryd.ntmps26
  go_wp2_with (go_at_call 41; refine k1.mono ?_; rintro e w1 ⟨rfl, hb⟩)
  all_goals go_returns
  all_goals exact ⟨rfl, hbe.trans (hb.mono hbe.size)⟩
theorem hwrite_nil (s g a : Int) (t : ByteArray) (w : World) : Calls Tryd.prog 27 #[.pointer none, .agg #[.int .i64 s, .int .u64 g], .int .i64 a, .string t] w fun e w' => e = .returned (.int .i64 1) ∧ Below w.heap.size w w' := by
  have hbe := (Below.refl w.heap.size w).alloc (Nat.le_refl _) (.cells #[.int .i64 s, .int .u64 g] 34)
  have k1 := object_nil s g (w.alloc (.cells #[.int .i64 s, .int .u64 g] 34))
  go_enter Tryd.func27, Tryd.ntmps27
  go_wp2_with (go_at_call 41; refine k1.mono ?_; rintro e w1 ⟨rfl, hb⟩)
  all_goals go_returns
  all_goals exact ⟨rfl, hbe.trans (hb.mono hbe.size)⟩
theorem hmake_nil (a m : Int) (w : World) : Calls Tryd.prog 13 #[.pointer none, .int .i64 a, .int .i64 m] w fun e w' => e = .returned (.tuple #[H.hdV 0 0, .int .i64 1]) ∧ Below w.heap.size w w' := by
  have k1 := fun W => hmade_nil W
  go_enter Tryd.func13, Tryd.ntmps13
  go_wp2_with (go_at_call 31; refine (k1 _).mono ?_; rintro e w' ⟨rfl, hw⟩; rw [hw]; clear hw)
  all_goals go_returns
  all_goals exact ⟨rfl, (Below.refl _ w).alloc (Nat.le_refl _) _⟩
theorem hused_nil (w : World) : Calls Tryd.prog 19 #[.pointer none] w fun e w' => e = .returned (.int .i64 0) ∧ w' = w := by
  have k1 := hmade_nil w
  go_enter Tryd.func19, Tryd.ntmps19
  go_wp2_with (go_at_call 31; refine k1.mono ?_; rintro e w' ⟨rfl, hw⟩; rw [hw]; clear hw)
  all_goals go_returns
  all_goals exact ⟨rfl, rfl⟩
theorem hroom_nil (w : World) : Calls Tryd.prog 21 #[.pointer none] w fun e w' => e = .returned (.int .i64 0) ∧ w' = w := by
  have k1 := hmade_nil w
  go_enter Tryd.func21, Tryd.ntmps21
  go_wp2_with (go_at_call 31; refine k1.mono ?_; rintro e w' ⟨rfl, hw⟩; rw [hw]; clear hw)
  all_goals go_returns
  all_goals exact ⟨rfl, rfl⟩
theorem hlive_nil (w : World) : Calls Tryd.prog 22 #[.pointer none] w fun e w' => e = .returned (.slice none 0 0) ∧ w' = w := by
  have k1 := hmade_nil w
  go_enter Tryd.func22, Tryd.ntmps22
  go_wp2_with (go_at_call 31; refine k1.mono ?_; rintro e w' ⟨rfl, hw⟩; rw [hw]; clear hw)
  all_goals go_returns
  all_goals exact ⟨rfl, rfl⟩
theorem tOf_none (K : Nat → Nat) : tOf (fun _ => none) K = fun _ => none := rfl
theorem getM_none (s : Int) : getM (fun _ => none) s = none := by unfold getM; split <;> rfl
theorem lOf_none : lOf (fun _ => none) = fun _ => none := by funext s; unfold lOf; rw [getM_none]; rfl
theorem pOf_none (A : Nat → Nat) : pOf (fun _ => none) A = fun _ => none := by funext s; unfold pOf; rw [getM_none]; rfl
theorem hnew_bad (room : Int) (hr : room < 0 ∨ 65536 < room) (w : World) : Calls Tryd.prog 10 #[.int .i64 room] w fun e w' => e = .returned (.tuple #[.pointer none, .int .i64 2]) ∧ w' = w := by
  have k1 := new_bad room hr w
  go_enter Tryd.func10, Tryd.ntmps10
  go_wp2_with (go_at_call 29; refine k1.mono ?_; rintro e w' ⟨rfl, hw⟩; rw [hw]; clear hw)
  all_goals go_returns
  all_goals exact ⟨rfl, rfl⟩
set_option maxHeartbeats 1000000 in
theorem hnew_any (room : Int) (hr : 0 ≤ room ∧ room ≤ 65536) (w : World) (hY : ∀ k, Yo k → k < w.heap.size) :
    Calls Tryd.prog 10 #[.int .i64 room] w fun e w' => ∃ q : HQ, e = .returned (.tuple #[.pointer (some ⟨q.b, 0, none⟩), .int .i64 0]) ∧ Hp Yo w' w.heap.size q room 0 (fun _ => 0) (fun _ => none) 0 (fun _ => 0) (fun _ => 0) 0 ∧ Below w.heap.size w w' := by
  have k1 := new_any room hr w hY
  have hmm := @run_makeMap Tryd.prog
  generalize hB0 : w.heap.size = B at k1 hY ⊢
  go_enter Tryd.func10, Tryd.ntmps10
  go_upto_region 4 with (go_at_call 29; refine k1.mono ?_; rintro e w1 ⟨rfl, hS1, hb1⟩)
  have k2 := H.new_any w1
  have hsz1 := (SlF.cells hS1).2.2.2.2
  go_wp2_with (go_at_call 30; refine k2.mono ?_; rintro e w2 ⟨rfl, hT2, hb2⟩)
  all_goals go_returns
  have hT2' := hT2.base (show B ≤ w1.heap.size by omega)
  have hsz2 := hT2.nm
  have hsz2' := H.heap_lt hT2.cells
  have hB2 := hb2.size
  have hS2 := hS1.kept hb2
  have hB3 : Below w2.heap.size w2 ((w2.alloc (.map #[] 0)).alloc (.cells #[.pointer (some ⟨B, 0, none⟩), .pointer (some ⟨w1.heap.size + 2, 0, none⟩), .map (some w2.heap.size)] 77)) := ((Below.refl _ w2).alloc (Nat.le_refl _) _).alloc (by simp) _
  refine ⟨⟨w2.heap.size + 1, B, w1.heap.size + 2, w1.heap.size, w1.heap.size + 1, w2.heap.size⟩, rfl, ⟨⟨by simp only; omega, ?_, by simp only; omega, ?_, (by intro k o e; cases e), (by intro k j x y e; cases e)⟩, ?_, ?_, ?_, by simp only; omega, by simp only; omega, by omega, by omega, ?_⟩, ?_⟩
  · simpa using heap_alloc_new (w2.alloc (.map #[] 0)) _
  · rw [pOf_none]; exact (IM.new w2).alloc _
  · rw [tOf_none]; exact hS2.kept hB3
  · rw [lOf_none]; exact hT2'.below hB3
  · rw [tOf_none]; exact Us.new
  · refine ⟨?_, ?_, ?_, ?_, ?_⟩ <;> (intro e; have := hY _ e; simp only at this; omega)
  · exact (hb1.trans (hb2.mono (by omega))).trans (hB3.mono (by omega))
end Go.Proofs.YtooblonafnlfcaaDoor
