/- Towards HeapPlays and SlabPlays: the document's Give. -/
import Derived.Test.YtooblonafnlfcaaDoorDB
namespace Go.Proofs.YtooblonafnlfcaaDoor
open Go.ChangeShapes Go.WideShapes Go.ChangeAt Go.RowKit
set_option linter.unusedVariables false
set_option linter.unusedSimpArgs false
set_option maxRecDepth 20000
theorem dgive_no (w : World) (B r : Nat) (room : Int) (S : List Ds) (v : Value) (h : Rs w B r room S v) (s : Int) (hn : ∀ x ∈ S, (x.1 : Int) ≠ s) :
    Calls Tryd.prog 63 #[.pointer (some ⟨r, 0, none⟩), .int .i64 s] w fun e w' => e = .returned (.int .i64 5) ∧ w' = w := by
  have k1 := dat_no w B r room S v h s hn
  go_enter Tryd.func63, Tryd.ntmps63
  go_wp2_with (go_at_call 73; refine k1.mono ?_; rintro e w' ⟨rfl, hw⟩; rw [hw]; clear hw)
  all_goals go_returns
  all_goals exact ⟨rfl, rfl⟩
set_option maxHeartbeats 2000000 in
theorem dgive_ok (w : World) (B r : Nat) (room : Int) (X : List Ds) (vX : Value) (h : Rs w B r room X vX) (k s : Nat) (bs : List Int) (hk : X[k]? = some (s, bs)) (hd : ∀ j x, j < k → X[j]? = some x → x.1 ≠ s) :
    Calls Tryd.prog 63 #[.pointer (some ⟨r, 0, none⟩), .int .i64 s] w fun e w' => e = .returned (.int .i64 0) ∧ (∃ vX', Rs w' B r room (X.take k ++ X.drop (k + 1)) vX') ∧ Fd B r vX w w' := by
  have hkl := (List.getElem?_eq_some_iff.1 hk).1
  have hlX := h.len
  have hB := h.size
  have hbs := h.bs
  have k2 := dat_yes w B r room X vX h k s bs hk hd
  obtain ⟨i92, hi92, hz0, hz1, hz2⟩ := H.info_parts info92
  obtain ⟨gX, cX, rfl, hcX⟩ := dsome_shape h.row (by omega)
  have c0 : w.cell? ⟨r, 1, none⟩ = some (.slice (some ⟨gX, 0, none⟩) X.length cX) := by rw [cell_of h.cells]; rfl
  have q1 := dcutH gX X.length cX k (by omega) w
  have hn1 := dnews_row h.row 0 k (by omega)
  rw [List.drop_zero] at hn1
  have dk : decide ((k : Int) < 0) = false := decide_eq_false (by omega)
  have e9 : IntKind.i64.wrap ((k : Int) + 1) = (k : Int) + 1 := IntWalk.i64_in _ (by omega)
  clear hk hd
  go_enter Tryd.func63, Tryd.ntmps63
  go_upto_region 6 with (first
    | (go_at_call 73; refine k2.mono ?_; rintro e w' ⟨rfl, hw⟩; rw [hw]; clear hw)
    | (at_builtin; refine wpList_append_own_at _ rfl _ _ 78 rfl w.heap.size 92 i92 (.agg #[.int .i64 0, .string ⟨#[]⟩]) 2 24 Tryd.underlying78 hi92 hz0 hz1 hz2 rfl (by decide) (.slice none 0 0) 0 [] rfl (World.ownsRow_nil _ _ _ _) ⟨gX, 0, none⟩ k cX (dCells (X.take k)) rfl (by rw [dCells_len]; simp; omega) hn1 (dCells_one _) (by simp [maxLen]; omega) (by omega) (Nat.le_refl _) ?_; go_loud (intro v2 w2 hown2 hgrow2 hnil2 hloc2; rw [Nat.zero_add, List.nil_append] at hown2; obtain ⟨p2, c2, rfl⟩ : ∃ p cap, v2 = .slice p k cap := H.own_shape hown2)))
  have hk2 : ∀ i, i < w.heap.size → w2.heap[i]? = w.heap[i]? := fun i hi => hgrow2.block i hi (by simp [Value.ownBlock])
  have hr1 := heap_lt h.cells
  have c0' : w2.cell? ⟨r, 1, none⟩ = some (.slice (some ⟨gX, 0, none⟩) X.length cX) := by rw [cell_of ((hk2 r hr1).trans h.cells)]; rfl
  obtain ⟨ad, had, q2⟩ := dcutL gX X.length cX (k + 1) (by omega) hcX
  have q2' := q2 w2
  rw [show ((k + 1 : Nat) : Int) = (k : Int) + 1 by simp] at q2'
  have hrX2 : w2.ownsRow B 92 2 (.slice (some ⟨gX, 0, none⟩) X.length cX) X.length (dCells X) := row_kept h.row fun g' hg' => hk2 _ (h.row.lt g' hg').2
  have hn2 : ∀ (j : Nat) (u : Value), (dCells (X.drop (k + 1)))[j]? = some u → w2.cell? (ad.add j) = some u := by
    by_cases e : k + 1 < X.length
    · have := dnews_row hrX2 (k + 1) (X.length - (k + 1)) (by omega)
      rw [List.take_of_length_le (by simp)] at this
      rw [had e]
      exact this
    · intro j u hu
      rw [List.drop_of_length_le (by omega)] at hu
      simp [dCells] at hu
  have hw2 : w.heap.size ≤ w2.heap.size := hgrow2.size
  clear c0 q1 q2 hn1 k2
  go_upto_region 7 with (at_builtin; refine wpList_append_own_at _ rfl _ _ 78 rfl w.heap.size 92 i92 (.agg #[.int .i64 0, .string ⟨#[]⟩]) 2 24 Tryd.underlying78 hi92 hz0 hz1 hz2 rfl (by decide) (.slice p2 k c2) k (dCells (X.take k)) rfl hown2 ad (X.length - (k + 1)) (cX - (k + 1)) (dCells (X.drop (k + 1))) rfl (by rw [dCells_len]; simp) hn2 (dCells_one _) (by simp [maxLen]; omega) (by omega) hw2 ?_; go_loud (intro v3 w3 hown3 hgrow3 hnil3 hloc3; obtain ⟨p3, c3, rfl⟩ : ∃ p cap, v3 = .slice p (k + (X.length - (k + 1))) cap := H.own_shape hown3; have hr3 : w3.heap[r]? = some (.cells #[.int .i64 room, .slice (some ⟨gX, 0, none⟩) X.length cX] 80 (0, 0)) := (by rw [hgrow3.block r (by omega) (fun e => by have := (hown2.lt r e.symm).1; omega)]; exact (hk2 r hr1).trans h.cells); have c03 := cell_of hr3 1; have f03 := froz_of hr3 1; simp at c03))
  have hk3 : ∀ i, i < w.heap.size → w3.heap[i]? = w.heap[i]? := fun i hi => (hgrow3.block i (by omega) (fun e => by have := (hown2.lt i e.symm).1; omega)).trans (hk2 i hi)
  have hlen : (X.take k ++ X.drop (k + 1)).length = k + (X.length - (k + 1)) := by simp; omega
  have hR := h.putS (W := w3) (X' := X.take k ++ X.drop (k + 1)) (vX' := .slice p3 (k + (X.length - (k + 1))) c3) hk3 (by rw [hlen, dCells_app]; exact drow_base hown3 hB) (fun g' hg' => (hown3.lt g' hg').1) (by omega) (fun x hx => by
    rcases List.mem_append.1 hx with hx | hx
    · exact hbs x (List.mem_of_mem_take hx)
    · exact hbs x (List.mem_of_mem_drop hx))
  have hrB : B ≤ r := h.rB
  have hw3 : w.heap.size ≤ w3.heap.size := Nat.le_trans hw2 hgrow3.size
  have hF : Fd B r (.slice (some ⟨gX, 0, none⟩) X.length cX) w (w3.setCell ⟨r, 1, none⟩ (.slice p3 (k + (X.length - (k + 1))) c3)) := by
    refine ⟨⟨?_, ?_, ?_, ?_, fun i hi => ?_⟩, fun i hi h1' _ => ?_⟩
    · exact hgrow3.os.trans hgrow2.os
    · exact hgrow3.tape.trans hgrow2.tape
    · exact hgrow3.output.trans hgrow2.output
    · simp [World.setCell]; omega
    · rw [Below.heap_setCell _ _ _ _ (by simp; omega), hk3 i (by omega)]
    · rw [Below.heap_setCell _ _ _ _ (by simpa using h1'), hk3 i hi]
  clear c03 f03 q2' c0'
  generalize w3.setCell ⟨r, 1, none⟩ (.slice p3 (k + (X.length - (k + 1))) c3) = W4 at hR hF ⊢
  go_wp2
  all_goals go_returns
  all_goals exact ⟨rfl, ⟨_, hR⟩, hF⟩
end Go.Proofs.YtooblonafnlfcaaDoor
