/- Towards HeapPlays and SlabPlays: the document's Read, Give. -/
import Derived.Test.YtooblonafnlfcaaDoorDA
namespace Go.Proofs.YtooblonafnlfcaaDoor
open Go.ChangeShapes Go.WideShapes Go.ChangeAt Go.RowKit
set_option linter.unusedVariables false
set_option linter.unusedSimpArgs false
set_option maxRecDepth 20000
/-- What a call of the document's slab leaves: all below B, all beside it and its row. -/
structure Fd (B r : Nat) (v : Value) (w w' : World) : Prop where
  bel : Below B w w'
  keep : ∀ k, k < w.heap.size → k ≠ r → some k ≠ v.ownBlock → w'.heap[k]? = w.heap[k]?
theorem dCells_one : ∀ l : List Ds, ∀ u ∈ dCells l, u.oneCell' = true
  | [], u, h => by simp [dCells] at h
  | (k, bs) :: l, u, h => by
    simp only [dCells, List.mem_cons] at h
    rcases h with rfl | rfl | h
    · rfl
    · rfl
    · exact dCells_one l u h
theorem info92 : (Tryd.prog.info? 92).map (fun i => (i.zero, i.size, i.bytes)) = some (some (.agg #[.int .i64 0, .string ⟨#[]⟩]), 2, 24) := by kernel_rfl
theorem ext_nums (bs : List Int) (a m : Nat) : (strOfNums bs).extract a (a + m) = strOfNums ((bs.drop a).take m) := by
  apply ByteArray.ext
  apply Array.toList_inj.1
  rw [strOfNums_data, ByteArray.data_extract, Array.toList_extract, strOfNums_data, List.extract_eq_take_drop, show a + m - a = m by omega, List.map_take, List.map_drop]
theorem dread_no (w : World) (B r : Nat) (room : Int) (S : List Ds) (v : Value) (h : Rs w B r room S v) (s a m : Int) (hn : ∀ x ∈ S, (x.1 : Int) ≠ s) :
    Calls Tryd.prog 64 #[.pointer (some ⟨r, 0, none⟩), .int .i64 s, .int .i64 a, .int .i64 m] w fun e w' => e = .returned (.tuple #[.string ⟨#[]⟩, .int .i64 5]) ∧ w' = w := by
  have k1 := dat_no w B r room S v h s hn
  go_enter Tryd.func64, Tryd.ntmps64
  go_wp2_with (go_at_call 73; refine k1.mono ?_; rintro e w' ⟨rfl, hw⟩; rw [hw]; clear hw)
  all_goals go_returns
  all_goals exact ⟨rfl, rfl⟩
theorem dread_at (w : World) (B r : Nat) (room : Int) (S : List Ds) (v : Value) (h : Rs w B r room S v) (k s : Nat) (bs : List Int) (hk : S[k]? = some (s, bs)) (hd : ∀ j x, j < k → S[j]? = some x → x.1 ≠ s) (a m : Int) (ha : I64 a) (hm : I64 m) :
    Calls Tryd.prog 64 #[.pointer (some ⟨r, 0, none⟩), .int .i64 s, .int .i64 a, .int .i64 m] w fun e w' => e = .returned (.tuple #[.string (inS bs a m), .int .i64 (inE bs a m)]) ∧ w' = w := by
  have k1 := dat_yes w B r room S v h k s bs hk hd
  have hl := h.len
  have hkl := (List.getElem?_eq_some_iff.1 hk).1
  obtain ⟨-, -, hb128, -⟩ := h.bs _ (List.mem_of_getElem? hk)
  simp only at hb128
  obtain ⟨p, c, rfl⟩ := row_shape h.row
  have c1 : w.cell? ⟨r, 1, none⟩ = some (.slice p S.length c) := by rw [cell_of h.cells]; rfl
  obtain ⟨g, x, hx, hgl, hgo, hc0, hc1, hai⟩ := idx92 h.row hkl (by omega)
  rw [hk] at hx
  cases hx
  simp only at hc0 hc1
  have hsz : ((strOfNums bs).size : Int) = (bs.length : Int) := by rw [strOfNums_size]
  have k2 := fits_any ((strOfNums bs).size : Int) a m (by omega) ha hm w
  rw [hsz] at k2
  have hai' := hai w
  clear hk hd
  by_cases hf : 0 ≤ a ∧ 0 ≤ m ∧ a + m ≤ (bs.length : Int)
  · rw [decide_eq_true hf] at k2
    obtain ⟨i, rfl⟩ : ∃ i : Nat, a = i := ⟨a.toNat, by omega⟩
    obtain ⟨j, rfl⟩ : ∃ j : Nat, m = j := ⟨m.toNat, by omega⟩
    rw [inS, inE, if_pos hf, if_pos hf, Int.toNat_natCast, Int.toNat_natCast, ← ext_nums]
    have hw : IntKind.i64.wrap ((i : Int) + (j : Int)) = ((i + j : Nat) : Int) := by rw [IntWalk.i64_in _ (by omega)]; omega
    have hcut := run_slice_string (P := Tryd.prog) w 9 (strOfNums bs) .i64 .i64 i (i + j) Tryd.underlying9 (by omega) (by omega) (by rw [strOfNums_size]; omega)
    generalize strOfNums bs = ss at *
    go_enter Tryd.func64, Tryd.ntmps64
    go_wp2_with (first | (go_at_call 73; refine k1.mono ?_; rintro e w' ⟨rfl, hw⟩; rw [hw]; clear hw) | (go_at_call 74; refine k2.mono ?_; rintro e w' ⟨rfl, hw⟩; rw [hw]; clear hw))
    all_goals go_returns
    all_goals exact ⟨by simp, rfl⟩
  · rw [decide_eq_false hf] at k2
    rw [inS, inE, if_neg hf, if_neg hf]
    generalize strOfNums bs = ss at *
    go_enter Tryd.func64, Tryd.ntmps64
    go_wp2_with (first | (go_at_call 73; refine k1.mono ?_; rintro e w' ⟨rfl, hw⟩; rw [hw]; clear hw) | (go_at_call 74; refine k2.mono ?_; rintro e w' ⟨rfl, hw⟩; rw [hw]; clear hw))
    all_goals go_returns
    all_goals exact ⟨rfl, rfl⟩
theorem dCells_drop : ∀ (l : List Ds) (a : Nat), dCells (l.drop a) = (dCells l).drop (a * 2)
  | [], a => by simp [dCells]
  | x :: l, 0 => by simp
  | (s, g) :: l, a + 1 => by
    rw [List.drop_succ_cons, dCells_drop l a, show (a + 1) * 2 = a * 2 + 1 + 1 by omega]
    simp [dCells]
theorem dCells_take : ∀ (l : List Ds) (a : Nat), dCells (l.take a) = (dCells l).take (a * 2)
  | [], a => by simp [dCells]
  | x :: l, 0 => by simp [dCells]
  | (s, g) :: l, a + 1 => by
    rw [List.take_succ_cons, show (a + 1) * 2 = a * 2 + 1 + 1 by omega]
    simp [dCells, dCells_take l a]
theorem dnews_row {w : World} {B g cap : Nat} {X : List Ds} (h : w.ownsRow B 92 2 (.slice (some ⟨g, 0, none⟩) X.length cap) X.length (dCells X)) (a m : Nat) (ha : a + m ≤ X.length) :
    ∀ (j : Nat) (u : Value), (dCells ((X.drop a).take m))[j]? = some u → w.cell? ((⟨g, a * 2, none⟩ : Addr).add j) = some u := by
  intro j u hu
  have hj : j < m * 2 := by
    have := (List.getElem?_eq_some_iff.1 hu).1
    rw [dCells_len] at this
    simp at this
    omega
  rw [dCells_take, List.getElem?_take, if_pos hj, dCells_drop, List.getElem?_drop] at hu
  rw [show (⟨g, a * 2, none⟩ : Addr).add j = ⟨g, a * 2 + j, none⟩ by unfold Addr.add; split <;> simp_all]
  rw [h.cellAt _ (by omega)]
  exact hu
theorem dcutH (g n c k : Nat) (hk : k ≤ c) (W : World) : (Instr.slice 78 (.slice (some ⟨g, 0, none⟩) n c) none (some (.int .i64 k)) none).run Tryd.prog W = .ok (.slice (some ⟨g, 0, none⟩) k c) W := by
  have h5 : (sizeOf (Tryd.prog.elem 78)).run Tryd.prog W = .ok 2 W := by kernel_rfl
  rw [run_slice_h W 78 (some ⟨g, 0, none⟩) n c (by kernel_rfl) .i64 k (by omega) (by omega), h5]
  simp only [Result.andThen_ok, sliced, Int.toNat_natCast, Nat.sub_zero, Nat.zero_mul]
  congr 2
  split
  · rfl
  · simp [Addr.add]
theorem dcutL (g n c k : Nat) (hk : k ≤ n) (hn : n ≤ c) : ∃ ad : Addr, (k < n → ad = ⟨g, k * 2, none⟩) ∧ ∀ W, (Instr.slice 78 (.slice (some ⟨g, 0, none⟩) n c) (some (.int .i64 k)) none none).run Tryd.prog W = .ok (.slice (some ad) (n - k) (c - k)) W := by
  have h5 : ∀ W, (sizeOf (Tryd.prog.elem 78)).run Tryd.prog W = .ok 2 W := fun W => by kernel_rfl
  by_cases e : c = k
  · refine ⟨⟨g, 0, none⟩, by omega, fun W => ?_⟩
    rw [run_slice_l W 78 (some ⟨g, 0, none⟩) n c (by kernel_rfl) .i64 k (by omega) (by omega), h5]
    simp [sliced, Result.andThen, e]
  · refine ⟨(⟨g, 0, none⟩ : Addr).add (k * 2), fun _ => by unfold Addr.add; split <;> simp_all, fun W => ?_⟩
    rw [run_slice_l W 78 (some ⟨g, 0, none⟩) n c (by kernel_rfl) .i64 k (by omega) (by omega), h5]
    simp [sliced, Result.andThen, e]
theorem dsome_shape {w : World} {B : Nat} {v : Value} {X : List Ds} (h : w.ownsRow B 92 2 v X.length (dCells X)) (hX : 0 < X.length) : ∃ g cap, v = .slice (some ⟨g, 0, none⟩) X.length cap ∧ X.length ≤ cap := by
  rcases h.2 with ⟨e, h⟩ | ⟨g, cap, cur, e, _, _, h3, _⟩
  · omega
  · exact ⟨g, cap, e, h3⟩
theorem drow_base {w : World} {B B' t sz n : Nat} {v : Value} {xs : List Value} (h : w.ownsRow B t sz v n xs) (hB : B' ≤ B) : w.ownsRow B' t sz v n xs := H.row_base h hB
/-- The document's slab with its row set anew. -/
theorem Rs.putS {w W : World} {B r : Nat} {room : Int} {X X' : List Ds} {vX vX' : Value} (h : Rs w B r room X vX) (hk : ∀ k, k < w.heap.size → W.heap[k]? = w.heap[k]?) (hrow : W.ownsRow B 92 2 vX' X'.length (dCells X')) (hfr : ∀ g, vX'.ownBlock = some g → w.heap.size ≤ g) (hl : X'.length ≤ 1000)
    (hbs : ∀ x ∈ X', x.1 ≤ 100000 ∧ 1 ≤ x.2.length ∧ x.2.length ≤ 128 ∧ ∀ y ∈ x.2, 0 ≤ y ∧ y ≤ 255) : Rs (W.setCell ⟨r, 1, none⟩ vX') B r room X' vX' := by
  have hr := heap_lt h.cells
  refine ⟨?_, h.rB, row_kept hrow (fun g hg => Below.heap_setCell _ _ _ _ (by have := hfr g hg; simp; omega)), hl, hbs⟩
  have := heap_setCell_same W r 1 _ _ vX' ((hk r hr).trans h.cells)
  simpa using this
end Go.Proofs.YtooblonafnlfcaaDoor
