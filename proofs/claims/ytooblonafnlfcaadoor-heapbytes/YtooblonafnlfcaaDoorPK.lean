/- Towards HeapBytes: the law's own fill; what was written is read. -/
import Derived.Test.YtooblonafnlfcaaDoorPJ
import Derived.Test.YtooblonafnlfcaaDoorPW
namespace Go.Proofs.YtooblonafnlfcaaDoor
open Go.ChangeShapes Go.WideShapes Go.ChangeAt Go.RowKit
set_option linter.unusedVariables false
set_option linter.unusedSimpArgs false
set_option maxRecDepth 20000
variable {Yo : Nat → Prop}
set_option maxHeartbeats 1000000 in
/-- The statements' own fill: a new block of so many bytes. -/
theorem ones_any (s : Nat) (hs : 1 ≤ s ∧ s ≤ 128) (w : World) :
    Calls Tryd.prog 28 #[.int .i64 s] w fun e w' => e = .returned (.slice (some ⟨w.heap.size, 0, none⟩) s s) ∧ w'.heap[w.heap.size]? = some (.cells (byV (List.replicate s 255)) 5 (0, 0)) ∧ Below w.heap.size w w' := by
  have m5 := make5 s hs w
  obtain ⟨hs1, hs2⟩ := hs
  go_enter Tryd.func28, Tryd.ntmps28
  go_wp2
  go_loopw [4] (fun n1 wr => ∃ i : Nat, n1 = .int .i64 i ∧ i ≤ s ∧ wr.heap[w.heap.size]? = some (.cells (byV (List.replicate i 255 ++ List.replicate (s - i) 0)) 5 (0, 0)) ∧ Below w.heap.size w wr) (fun n1 _ => s - (intOf n1).toNat)
  case atStart => exact ⟨0, rfl, by omega, by simpa using heap_alloc_new w (.cells (byV (List.replicate s 0)) 5), (Below.refl _ w).alloc (Nat.le_refl _) _⟩
  case round =>
    obtain ⟨i, rfl, hi, hb, hbel⟩ := hrel
    by_cases hin : i < s
    · have d : decide ((i : Int) < s) = true := by rw [decide_eq_true_eq]; omega
      have e9 : IntKind.i64.wrap ((i : Int) + 1) = (i : Int) + 1 := IntWalk.i64_in _ (by omega)
      have hlen : (byV (List.replicate i 255 ++ List.replicate (s - i) 0)).size = s := by simp [byV]; omega
      obtain ⟨x, hx⟩ : ∃ x, wr.cell? ⟨w.heap.size, i, none⟩ = some x := ⟨_, by rw [cell_of hb]; exact Array.getElem?_eq_getElem (by omega)⟩
      have f1 := froz_of hb i
      have hM := heap_setCell_same wr w.heap.size i _ _ (.int .u8 255) hb
      rw [byV_set s i 255 hin] at hM
      have hB2 := hbel.setCell (p := ⟨w.heap.size, i, none⟩) (Nat.le_refl _) (.int .u8 255)
      replace hM : Hid _ := hM
      clear hb hlen
      go_wp2
      refine ⟨⟨i + 1, by simp, by omega, hM.out, hB2⟩, by simp [intOf]; omega⟩
    · have d : decide ((i : Int) < s) = false := by rw [decide_eq_false_iff_not]; omega
      obtain rfl : i = s := by omega
      go_wp2
      all_goals go_returns
      all_goals exact ⟨rfl, by simpa using hb, hbel⟩
theorem strOf_nums (t : ByteArray) : strOfNums (numsOf t) = t := by
  apply ByteArray.ext
  apply Array.toList_inj.1
  rw [strOfNums_data, numsOf, List.map_map]
  have : ∀ x ∈ t.data.toList, ((fun n : Int => UInt8.ofNat n.toNat) ∘ fun x : UInt8 => (x.toNat : Int)) x = id x := fun x _ => by simp
  rw [List.map_congr_left this, List.map_id]
/-- What was written is read. -/
theorem inS_wr {bs : List Int} {a : Nat} {t : ByteArray} (h : a + t.size ≤ bs.length) : inS (wr bs a t) a t.size = t ∧ inE (wr bs a t) a t.size = 0 := by
  have hl := wr_len bs a t h
  have hc : (0 : Int) ≤ (a : Int) ∧ (0 : Int) ≤ (t.size : Int) ∧ (a : Int) + (t.size : Int) ≤ ((wr bs a t).length : Int) := ⟨by omega, by omega, by omega⟩
  rw [inS, inE, if_pos hc, if_pos hc]
  refine ⟨?_, rfl⟩
  have e : ((wr bs a t).drop (a : Int).toNat).take (t.size : Int).toNat = numsOf t := by
    have ha : (bs.take a).length = a := by rw [List.length_take]; omega
    rw [wr, Int.toNat_natCast, Int.toNat_natCast, List.append_assoc, List.drop_append_of_le_length (by omega), List.drop_of_length_le (by omega), List.nil_append, List.take_append_of_le_length (by rw [numsOf_len]; omega), List.take_of_length_le (by rw [numsOf_len]; omega)]
  rw [e, strOf_nums]
theorem inS_all {bs : List Int} : inS bs 0 bs.length = strOfNums bs ∧ inE bs 0 bs.length = 0 := by
  have hc : (0 : Int) ≤ 0 ∧ (0 : Int) ≤ (bs.length : Int) ∧ (0 : Int) + (bs.length : Int) ≤ (bs.length : Int) := ⟨by omega, by omega, by omega⟩
  rw [inS, inE, if_pos hc, if_pos hc]
  simp
theorem first1 {M : MJ} {k : Nat} (h0 : (M 0).isSome = true) (hk : M k = none) (h1 : M 1 = none) (h2 : ∀ j, j < k → (M j).isSome = true) : k = 1 := by
  by_cases e0 : k = 0
  · subst e0; rw [hk] at h0; cases h0
  · by_cases e : k = 1
    · exact e
    · have := h2 1 (by omega)
      rw [h1] at this
      cases this
end Go.Proofs.YtooblonafnlfcaaDoor
