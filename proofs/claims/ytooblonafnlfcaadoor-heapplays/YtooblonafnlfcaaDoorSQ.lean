/- Towards SlabApart: bytes there and back; a copy into a cut. -/
import Derived.Test.YtooblonafnlfcaaDoorSO
namespace Go.Proofs.YtooblonafnlfcaaDoor
open Go.ChangeShapes Go.WideShapes Go.ChangeAt Go.RowKit
set_option linter.unusedVariables false
set_option linter.unusedSimpArgs false
set_option maxRecDepth 20000
variable {Yo : Nat → Prop}
theorem nums_str {l : List Int} (h : ∀ x ∈ l, 0 ≤ x ∧ x ≤ 255) : numsOf (strOfNums l) = l := by
  rw [numsOf, strOfNums_data, List.map_map]
  have : ∀ x ∈ l, ((fun x : UInt8 => (x.toNat : Int)) ∘ fun n : Int => UInt8.ofNat n.toNat) x = id x := fun x hx => by
    obtain ⟨h1, h2⟩ := h x hx
    simp only [Function.comp, id]
    rw [UInt8.toNat_ofNat_of_lt' (by simp [UInt8.size]; omega)]
    omega
  rw [List.map_congr_left this, List.map_id]
theorem wr_full {bs l : List Int} (h : ∀ x ∈ l, 0 ≤ x ∧ x ≤ 255) (hl : l.length = bs.length) : wr bs 0 (strOfNums l) = l := by
  rw [wr, nums_str h, strOfNums_size, List.take_zero, List.nil_append, List.drop_of_length_le (by omega), List.append_nil]
theorem conv_row {W : World} {g s : Nat} {l : List Int} (hb : W.heap[g]? = some (.cells (byV l) 5 (0, 0))) (hl : l.length = s) : (convert 65 9 (.slice (some ⟨g, 0, none⟩) s s)).run Tryd.prog W = .ok (.string (strOfNums l)) W := by
  refine run_convert_bytes_arg (P := Tryd.prog) W 65 5 Tryd.underlying65 Tryd.underlying5 g 0 s s l hl (fun i hi => ?_) 9 Tryd.underlying9
  rw [cell_of hb]
  have e1 : 0 + i < l.length := by omega
  rw [List.getD_eq_getElem?_getD]
  simp only [byV, List.getElem?_toArray, List.getElem?_map, Nat.zero_add, List.getElem?_eq_getElem (show i < l.length by omega), Option.map_some, Option.getD_some]
theorem cut_from (g s a : Nat) (ha : a ≤ s) : ∃ off, (a < s → off = a) ∧ off + (s - a) ≤ s ∧ ∀ W, (Instr.slice 65 (.slice (some ⟨g, 0, none⟩) s s) (some (.int .i64 a)) none none).run Tryd.prog W = .ok (.slice (some ⟨g, off, none⟩) (s - a) (s - a)) W := by
  have h5 : ∀ W, (sizeOf (Tryd.prog.elem 65)).run Tryd.prog W = .ok 1 W := fun W => by kernel_rfl
  by_cases e : s = a
  · refine ⟨0, by omega, by omega, fun W => ?_⟩
    rw [run_slice_l W 65 (some ⟨g, 0, none⟩) s s (by kernel_rfl) .i64 a (by omega) (by omega), h5]
    simp [sliced, Result.andThen, e]
  · refine ⟨a, by omega, by omega, fun W => ?_⟩
    rw [run_slice_l W 65 (some ⟨g, 0, none⟩) s s (by kernel_rfl) .i64 a (by omega) (by omega), h5]
    simp [sliced, Result.andThen, e, Addr.add]
    try omega
theorem copy_row {W : World} {g s a off : Nat} {l : List Int} {t : ByteArray} (hb : W.heap[g]? = some (.cells (byV l) 5 (0, 0))) (hl : l.length = s) (ht : a + t.size ≤ s) (ho : a < s → off = a) (ho2 : off + (s - a) ≤ s) :
    (Builtin.copy_ #[65, 9] 3 #[.slice (some ⟨g, off, none⟩) (s - a) (s - a), .string t]).run Tryd.prog W = .ok (goInt t.size) (W.setRow g (byV (wr l a t))) := by
  have hc := Lib.run_copy_row_string (P := Tryd.prog) W 65 9 3 5 g off (s - a) (s - a) t (byV l) 5 Tryd.underlying65 (by kernel_rfl) hb (by omega) (by simp [byV]; omega)
  have e1 : ((byV l).toList.take off ++ Lib.byteCells t.data.toList ++ (byV l).toList.drop (off + t.size)).toArray = byV (wr l a t) := by
    by_cases hz : 0 < t.size
    · obtain rfl := ho (by omega)
      simp [byV, wr, numsOf, Lib.byteCells]
    · have hz0 : t.data.toList = [] := List.eq_nil_of_length_eq_zero (by rw [Array.length_toList]; have : t.data.size = t.size := rfl; omega)
      have hz1 : t.size = 0 := by omega
      simp [byV, wr, numsOf, Lib.byteCells, hz0, hz1]
  rw [e1] at hc
  exact hc
/-- How great the i-th one is. -/
def szL (L : List Int) (i : Nat) : Nat := ((L[i]?.getD 0) % 128 + 1).toNat
end Go.Proofs.YtooblonafnlfcaaDoor
