/- Towards HeapPlays and SlabPlays: the document's Write. -/
import Derived.Test.YtooblonafnlfcaaDoorDD
import Derived.Test.YtooblonafnlfcaaDoorRB
namespace Go.Proofs.YtooblonafnlfcaaDoor
open Go.ChangeShapes Go.WideShapes Go.ChangeAt Go.RowKit
set_option linter.unusedVariables false
set_option linter.unusedSimpArgs false
set_option maxRecDepth 20000
theorem wr_str (bs : List Int) (a : Nat) (t : ByteArray) (h : a + t.size ≤ bs.length) : ((strOfNums bs).extract 0 a ++ t) ++ (strOfNums bs).extract (a + t.size) bs.length = strOfNums (wr bs a t) := by
  apply ByteArray.ext
  apply Array.toList_inj.1
  rw [ByteArray.data_append, ByteArray.data_append, Array.toList_append, Array.toList_append, ByteArray.data_extract, ByteArray.data_extract, Array.toList_extract, Array.toList_extract, strOfNums_data, strOfNums_data, wr, List.map_append, List.map_append, List.extract_eq_take_drop, List.extract_eq_take_drop]
  congr 1
  · congr 1
    · simp [List.map_take]
    · have : ((fun n : Int => UInt8.ofNat n.toNat) ∘ fun x : UInt8 => (x.toNat : Int)) = id := by funext x; simp
      rw [numsOf, List.map_map, this, List.map_id]
  · rw [List.map_drop, List.take_of_length_le (by simp)]
theorem dCells_set : ∀ (l : List Ds) (j : Nat) (s : Nat) (bs : List Int), ((dCells l).set (j * 2) (.int .i64 s)).set (j * 2 + 1) (.string (strOfNums bs)) = dCells (l.set j (s, bs))
  | [], j, s, g => by simp [dCells]
  | (a, b) :: l, 0, s, g => by simp [dCells]
  | (a, b) :: l, j + 1, s, g => by
    rw [show (j + 1) * 2 = j * 2 + 1 + 1 by omega]
    simp only [dCells, List.set_cons_succ]
    rw [dCells_set l j s g]
theorem dwrite_no (w : World) (B r : Nat) (room : Int) (S : List Ds) (v : Value) (h : Rs w B r room S v) (s a : Int) (t : ByteArray) (hn : ∀ x ∈ S, (x.1 : Int) ≠ s) :
    Calls Tryd.prog 65 #[.pointer (some ⟨r, 0, none⟩), .int .i64 s, .int .i64 a, .string t] w fun e w' => e = .returned (.int .i64 5) ∧ w' = w := by
  have k1 := dat_no w B r room S v h s hn
  go_enter Tryd.func65, Tryd.ntmps65
  go_wp2_with (go_at_call 73; refine k1.mono ?_; rintro e w' ⟨rfl, hw⟩; rw [hw]; clear hw)
  all_goals go_returns
  all_goals exact ⟨rfl, rfl⟩
theorem dwrite_range (w : World) (B r : Nat) (room : Int) (S : List Ds) (v : Value) (h : Rs w B r room S v) (k s : Nat) (bs : List Int) (hk : S[k]? = some (s, bs)) (hd : ∀ j x, j < k → S[j]? = some x → x.1 ≠ s) (a : Int) (t : ByteArray) (ha : I64 a) (ht : t.size ≤ maxLen) (hf : ¬ (0 ≤ a ∧ a + (t.size : Int) ≤ bs.length)) :
    Calls Tryd.prog 65 #[.pointer (some ⟨r, 0, none⟩), .int .i64 s, .int .i64 a, .string t] w fun e w' => e = .returned (.int .i64 120) ∧ Below w.heap.size w w' := by
  have k1 := dat_yes w B r room S v h k s bs hk hd
  have hl := h.len
  have hkl := (List.getElem?_eq_some_iff.1 hk).1
  obtain ⟨-, -, hb128, -⟩ := h.bs _ (List.mem_of_getElem? hk)
  simp only at hb128
  obtain ⟨p, c, rfl⟩ := row_shape h.row
  have c1 : w.cell? ⟨r, 1, none⟩ = some (.slice p S.length c) := by rw [cell_of h.cells]; rfl
  obtain ⟨g, x, hx, hgl, hgo, hc0, hc1, hai⟩ := idx92 h.row hkl (by omega)
  rw [hk] at hx
  cases hx
  simp only at hc0 hc1
  have hsz : ((strOfNums bs).size : Int) = (bs.length : Int) := by rw [strOfNums_size]
  have k2 := fun W => fits_any ((strOfNums bs).size : Int) a (t.size : Int) (by omega) ha (by unfold I64; simp [maxLen] at ht; omega) W
  rw [hsz] at k2
  rw [decide_eq_false (by omega)] at k2
  have dk : decide ((k : Int) < 0) = false := decide_eq_false (by omega)
  have hai' := hai w
  have hb := (Below.refl _ w).alloc (Nat.le_refl _) (.cells #[.int .i64 s, .string (strOfNums bs)] 92)
  clear hk hd
  generalize strOfNums bs = ss at *
  go_enter Tryd.func65, Tryd.ntmps65
  go_wp2_with (first | (go_at_call 73; refine k1.mono ?_; rintro e w' ⟨rfl, hw⟩; rw [hw]; clear hw) | (go_at_call 74; go_loud (refine (k2 _).mono ?_; rintro e w' ⟨rfl, hw⟩; rw [hw]; clear hw)))
  all_goals go_returns
  all_goals exact ⟨rfl, hb⟩
theorem wr_ok {bs : List Int} (h : ∀ y ∈ bs, 0 ≤ y ∧ y ≤ 255) (a : Nat) (t : ByteArray) : ∀ y ∈ wr bs a t, 0 ≤ y ∧ y ≤ 255 := fun y hy => by
  simp only [wr, List.mem_append] at hy
  rcases hy with (hy | hy) | hy
  · exact h y (List.mem_of_mem_take hy)
  · simp only [numsOf, List.mem_map] at hy
    obtain ⟨x, -, rfl⟩ := hy
    have := x.toNat_lt
    omega
  · exact h y (List.mem_of_mem_drop hy)
set_option maxHeartbeats 4000000 in
theorem dwrite_ok (w : World) (B r : Nat) (room : Int) (S : List Ds) (v : Value) (h : Rs w B r room S v) (k s : Nat) (bs : List Int) (hk : S[k]? = some (s, bs)) (hd : ∀ j x, j < k → S[j]? = some x → x.1 ≠ s) (a : Nat) (t : ByteArray) (hf : a + t.size ≤ bs.length) :
    Calls Tryd.prog 65 #[.pointer (some ⟨r, 0, none⟩), .int .i64 s, .int .i64 a, .string t] w fun e w' => e = .returned (.int .i64 0) ∧ Rs w' B r room (S.set k (s, wr bs a t)) v ∧ Fd B r v w w' := by
  have k1 := dat_yes w B r room S v h k s bs hk hd
  have hl := h.len
  have hkl := (List.getElem?_eq_some_iff.1 hk).1
  obtain ⟨hs1, hb1, hb128, hbb⟩ := h.bs _ (List.mem_of_getElem? hk)
  simp only at hb128 hs1 hb1 hbb
  have hbs := h.bs
  obtain ⟨p, c, rfl⟩ := row_shape h.row
  have c1 : w.cell? ⟨r, 1, none⟩ = some (.slice p S.length c) := by rw [cell_of h.cells]; rfl
  obtain ⟨g, x, hx, hgl, hgo, hc0, hc1, hai⟩ := idx92 h.row hkl (by omega)
  rw [hk] at hx
  cases hx
  simp only at hc0 hc1
  have hsz : ((strOfNums bs).size : Int) = (bs.length : Int) := by rw [strOfNums_size]
  have k2 := fun W => fits_any ((strOfNums bs).size : Int) a (t.size : Int) (by omega) ⟨by omega, by omega⟩ ⟨by omega, by omega⟩ W
  rw [hsz] at k2
  rw [decide_eq_true (show 0 ≤ (a : Int) ∧ 0 ≤ (t.size : Int) ∧ (a : Int) + t.size ≤ bs.length by omega)] at k2
  have dk : decide ((k : Int) < 0) = false := decide_eq_false (by omega)
  have hai' := hai
  have hrow := h.row
  have hrr := h.cells
  have hrg : r ≠ g := by rintro rfl; obtain ⟨cur, e⟩ := row_cells h.row hgo; rw [h.cells] at e; cases e
  have hgB : B ≤ g := (h.row.lt g hgo).1
  obtain ⟨s1, hs1e⟩ : ∃ s1, s1 = (strOfNums bs).extract 0 a := ⟨_, rfl⟩
  obtain ⟨s2, hs2e⟩ : ∃ s2, s2 = (strOfNums bs).extract (a + t.size) bs.length := ⟨_, rfl⟩
  have hq1 : ∀ W, (Instr.slice 9 (.string (strOfNums bs)) none (some (.int .i64 a)) none).run Tryd.prog W = .ok (.string s1) W := fun W => by
    rw [run_slice_string_h W 9 (strOfNums bs) Tryd.underlying9 .i64 a (by omega) (by rw [strOfNums_size]; omega), hs1e, Int.toNat_natCast]
  have hq2 : ∀ W, (Instr.slice 9 (.string (strOfNums bs)) (some (.int .i64 ((a : Int) + t.size))) none none).run Tryd.prog W = .ok (.string s2) W := fun W => by
    rw [run_slice_string_l W 9 (strOfNums bs) Tryd.underlying9 .i64 ((a : Int) + t.size) (by omega) (by rw [strOfNums_size]; omega), hs2e, strOfNums_size, show ((a : Int) + t.size).toNat = a + t.size by omega]
  have hwr : s1 ++ t ++ s2 = strOfNums (wr bs a t) := by rw [hs1e, hs2e]; exact wr_str bs a t hf
  have hw9 : IntKind.i64.wrap ((a : Int) + t.size) = (a : Int) + t.size := IntWalk.i64_in _ (by omega)
  have hz1 : s1.size ≤ 128 := by rw [hs1e]; simp [strOfNums_size]; omega
  have hz2 : s2.size ≤ 128 := by rw [hs2e]; simp [strOfNums_size]; omega
  obtain ⟨s3, hs3⟩ : ∃ s3, s3 = s1 ++ t := ⟨_, rfl⟩
  have hz3 : s3.size ≤ 300 := by rw [hs3]; simp; omega
  have hA1 : ∀ W, (Op.stringOp .add s1 t).run Tryd.prog W = .ok (.string s3) W := fun W => by rw [hs3]; exact run_string_add_sum W s1 t (by omega)
  rw [← hs3] at hwr
  have hA2 : ∀ W, (Op.stringOp .add s3 s2).run Tryd.prog W = .ok (.string (strOfNums (wr bs a t))) W := fun W => by rw [← hwr]; exact run_string_add_sum W s3 s2 (by omega)
  replace hs3 : Hid _ := hs3
  obtain ⟨s4, hs4⟩ : ∃ s4, s4 = strOfNums (wr bs a t) := ⟨_, rfl⟩
  rw [← hs4] at hA2
  replace hs4 : Hid _ := hs4
  replace hwr : Hid _ := hwr
  replace hs1e : Hid _ := hs1e
  replace hs2e : Hid _ := hs2e
  obtain ⟨ss, hss⟩ : ∃ ss, ss = strOfNums bs := ⟨_, rfl⟩
  rw [← hss] at hq1 hq2 hc1 hsz
  replace hss : Hid _ := hss
  have hB := h.size
  clear hk hd
  go_enter Tryd.func65, Tryd.ntmps65
  go_upto_region 5 with (go_at_call 73; refine k1.mono ?_; rintro e w' ⟨rfl, hw⟩; rw [hw]; clear hw)
  have hb := (Below.refl _ w).alloc (Nat.le_refl _) (.cells #[.int .i64 s, .string ss] 92)
  have hy := heap_alloc_new w (.cells #[.int .i64 s, .string ss] 92)
  have h1 := h.below hb
  clear c1 hc0 hc1 k1
  generalize w.alloc (.cells #[.int .i64 s, .string ss] 92) = W at hb hy h1 ⊢
  generalize hzq : w.heap.size = z at hb hy hgl ⊢
  replace hzq : Hid _ := hzq
  have y0 := cell_of hy 0
  have y1 := cell_of hy 1
  have y2 := froz_of hy 1
  simp at y0 y1
  go_upto_region 7 with (go_at_call 74; go_loud (refine (k2 _).mono ?_; rintro e w' ⟨rfl, hw⟩; rw [hw]; clear hw))
  go_region
  have hzB : w.heap.size ≤ z := by rw [hzq.out]; exact Nat.le_refl _
  have hb2 : Below w.heap.size w (W.setCell ⟨z, 1, none⟩ (.string s4)).drew := by
    rw [hzq.out]
    exact (hb.setCell (Nat.le_refl _) _).drew
  have hy2 : (W.setCell ⟨z, 1, none⟩ (.string s4)).drew.heap[z]? = some (.cells #[.int .i64 s, .string s4] 92 (0, 0)) := by
    have := heap_setCell_same W z 1 _ _ (.string s4) hy
    show (W.setCell ⟨z, 1, none⟩ (.string s4)).heap[z]? = _
    simpa using this
  have h2 := h.below hb2
  clear y0 y1 y2 hA1 hA2 hq1 hq2
  generalize (W.setCell ⟨z, 1, none⟩ (.string s4)).drew = W2 at hb2 hy2 h2 ⊢
  go_upto_region 8 with fail
  have c2 : W2.cell? ⟨r, 1, none⟩ = some (.slice p S.length c) := by rw [cell_of h2.cells]; rfl
  have x0 := cell_of hy2 0
  have x1 := cell_of hy2 1
  simp at x0 x1
  obtain ⟨cur, hcur⟩ := row_cells h2.row hgo
  have fr0 := froz_of hcur (k * 2)
  have fr1 := froz_of hcur (k * 2 + 1)
  obtain ⟨g', x', hx', hgl', hgo', hd0, hd1, -⟩ := idx92 h2.row hkl (by omega)
  have hgg : g' = g := by rw [hgo] at hgo'; cases hgo'; rfl
  rw [hgg] at hd0 hd1
  clear hgg hgo' hgl' hx'
  go_region
  have hR : Rs ((W2.setCell ⟨g, k * 2, none⟩ (.int .i64 s)).setCell ⟨g, k * 2 + 1, none⟩ (.string s4)) B r room (S.set k (s, wr bs a t)) (.slice p S.length c) := by
    refine ⟨?_, h2.rB, ?_, by simpa using hl, fun x hx => ?_⟩
    · rw [Below.heap_setCell _ _ _ _ hrg, Below.heap_setCell _ _ _ _ hrg]; exact h2.cells
    · have := H.row_set (i := k * 2 + 1) (u := .string s4) (H.row_set (i := k * 2) (u := .int .i64 s) h2.row hgo) hgo
      rw [hs4.out, dCells_set] at this
      rw [hs4.out, List.length_set]
      exact this
    · rcases List.mem_or_eq_of_mem_set hx with hx | rfl
      · exact hbs x hx
      · have := wr_len bs a t hf
        exact ⟨hs1, by simp only; omega, by simp only; omega, wr_ok hbb a t⟩
  have hF : Fd B r (.slice p S.length c) w ((W2.setCell ⟨g, k * 2, none⟩ (.int .i64 s)).setCell ⟨g, k * 2 + 1, none⟩ (.string s4)) :=
    ⟨((hb2.mono hB).setCell hgB _).setCell hgB _, fun k' hk' h1' h2' => by
      have hne : k' ≠ g := by rintro rfl; exact h2' hgo.symm
      rw [Below.heap_setCell _ _ _ _ hne, Below.heap_setCell _ _ _ _ hne]
      exact hb2.block _ hk'⟩
  replace hR := hR.below (Below.refl _ _).drew
  replace hF : Fd B r (.slice p S.length c) w _ := ⟨hF.bel.drew, hF.keep⟩
  clear x0 x1 c2 fr0 fr1 hd0 hd1
  generalize ((W2.setCell ⟨g, k * 2, none⟩ (.int .i64 s)).setCell ⟨g, k * 2 + 1, none⟩ (.string s4)).drew = W3 at hR hF ⊢
  go_wp2
  all_goals go_returns
  all_goals exact ⟨rfl, hR, hF⟩
end Go.Proofs.YtooblonafnlfcaaDoor
