/- Towards the statements of package slab (layer 12): Write that goes wrong; the statements' own fill. -/
import Derived.Test.YtkjdnebmhljciaaDoorSM
namespace Go.Proofs.YtkjdnebmhljciaaDoor
open Go.ChangeShapes Go.WideShapes Go.ChangeAt Go.RowKit
set_option linter.unusedVariables false
set_option linter.unusedSimpArgs false
set_option maxRecDepth 20000
theorem copy_nil (t : ByteArray) (w : World) : (Builtin.copy_ #[46, 9] 3 #[.slice none 0 0, .string t]).run Tryd.prog w = .ok (goInt 0) w := by
  obtain ⟨i5, hi, hz0, hz1, hz2⟩ := info_parts info5
  have hu : Tryd.prog.underlying 46 = some (.slice 5) := Tryd.underlying46
  simp [Builtin.copy_, run_underlying hu, Builtin.lenOf, Builtin.firstCells, sizeOf, typeInfo, hi, hz1, storeCells]
theorem write_bad (w : World) (B b : Nat) (room used : Int) (T : Nat → Th) (n : Nat) (h : Sl w B b room used T n) (s : Int) (hs : I64 s) (a : Int) (t : ByteArray) (ha : I64 a) (ht : t.size ≤ maxLen) (c : Int) (hc : partE (getT T s) a t.size = c) (h0 : c ≠ 0) :
    Calls Tryd.prog 21 #[.pointer (some ⟨b, 0, none⟩), .int .i64 s, .int .i64 a, .string t] w fun e w' => e = .returned (.int .i64 c) ∧ w' = w := by
  have k1 := part_bad w B b room used T n h s hs a t.size ha (by unfold I64; simp only [maxLen] at ht; omega) c hc h0
  have hcv := copy_nil t w
  go_enter Tryd.func21, Tryd.ntmps21
  go_wp2_with (go_at_call 34; refine k1.mono ?_; rintro e w' ⟨rfl, hw⟩; rw [hw]; clear hw)
  all_goals go_returns
  all_goals exact ⟨rfl, rfl⟩
theorem byV_set (s i : Nat) (c : Int) (hi : i < s) : (byV (List.replicate i c ++ List.replicate (s - i) 0)).setIfInBounds i (.int .u8 c) = byV (List.replicate (i + 1) c ++ List.replicate (s - (i + 1)) 0) := by
  apply Array.toList_inj.1
  rw [Array.toList_setIfInBounds]
  simp only [byV, List.map_append, List.map_replicate]
  rw [List.set_append_right _ _ (by simp), List.length_replicate, Nat.sub_self, show s - i = (s - (i + 1)) + 1 by omega, List.replicate_succ, List.set_cons_zero, List.replicate_succ', List.append_assoc]
  rfl
set_option maxHeartbeats 1000000 in
/-- The statements' own fill: a new block of so many bytes. -/
theorem lfill_any (s : Nat) (hs : 1 ≤ s ∧ s ≤ 128) (c : Int) (hc : 0 ≤ c ∧ c ≤ 255) (w : World) :
    Calls Tryd.prog 22 #[.int .i64 s, .int .u8 c] w fun e w' => e = .returned (.slice (some ⟨w.heap.size, 0, none⟩) s s) ∧ w'.heap[w.heap.size]? = some (.cells (byV (List.replicate s c)) 5 (0, 0)) ∧ Below w.heap.size w w' := by
  have m5 := make5 s hs w
  obtain ⟨hs1, hs2⟩ := hs
  go_enter Tryd.func22, Tryd.ntmps22
  go_wp2
  go_loopw [6] (fun n1 wr => ∃ i : Nat, n1 = .int .i64 i ∧ i ≤ s ∧ wr.heap[w.heap.size]? = some (.cells (byV (List.replicate i c ++ List.replicate (s - i) 0)) 5 (0, 0)) ∧ Below w.heap.size w wr) (fun n1 _ => s - (intOf n1).toNat)
  case atStart => exact ⟨0, rfl, by omega, by simpa using heap_alloc_new w (.cells (byV (List.replicate s 0)) 5), (Below.refl _ w).alloc (Nat.le_refl _) _⟩
  case round =>
    obtain ⟨i, rfl, hi, hb, hbel⟩ := hrel
    by_cases hin : i < s
    · have d : decide ((i : Int) < s) = true := by rw [decide_eq_true_eq]; omega
      have e9 : IntKind.i64.wrap ((i : Int) + 1) = (i : Int) + 1 := IntWalk.i64_in _ (by omega)
      have hlen : (byV (List.replicate i c ++ List.replicate (s - i) 0)).size = s := by simp [byV]; omega
      obtain ⟨x, hx⟩ : ∃ x, wr.cell? ⟨w.heap.size, i, none⟩ = some x := ⟨_, by rw [cell_of hb]; exact Array.getElem?_eq_getElem (by omega)⟩
      have f1 := froz_of hb i
      have hM := heap_setCell_same wr w.heap.size i _ _ (.int .u8 c) hb
      rw [byV_set s i c hin] at hM
      have hB2 := hbel.setCell (p := ⟨w.heap.size, i, none⟩) (Nat.le_refl _) (.int .u8 c)
      replace hM : Hid _ := hM
      clear hb hlen
      go_wp2
      refine ⟨⟨i + 1, by simp, by omega, hM.out, hB2⟩, by simp [intOf]; omega⟩
    · have d : decide ((i : Int) < s) = false := by rw [decide_eq_false_iff_not]; omega
      obtain rfl : i = s := by omega
      go_wp2
      all_goals go_returns
      all_goals exact ⟨rfl, by simpa using hb, hbel⟩
end Go.Proofs.YtkjdnebmhljciaaDoor
