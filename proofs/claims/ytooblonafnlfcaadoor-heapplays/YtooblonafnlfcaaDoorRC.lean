/- Towards HandlePlays: the document's gen of a new slot, Drop. -/
import Derived.Test.YtooblonafnlfcaaDoorRB
namespace Go.Proofs.YtooblonafnlfcaaDoor.H
open Go.ChangeShapes Go.WideShapes Go.ChangeAt Go.RowKit
set_option linter.unusedVariables false
set_option linter.unusedSimpArgs false
set_option maxRecDepth 20000
theorem hCells_drop : ∀ (l : List HKey) (a : Nat), hCells (l.drop a) = (hCells l).drop (a * 2)
  | [], a => by simp [hCells]
  | x :: l, 0 => by simp
  | (s, g) :: l, a + 1 => by
    rw [List.drop_succ_cons, hCells_drop l a, show (a + 1) * 2 = a * 2 + 1 + 1 by omega]
    simp [hCells]
theorem hCells_take : ∀ (l : List HKey) (a : Nat), hCells (l.take a) = (hCells l).take (a * 2)
  | [], a => by simp [hCells]
  | x :: l, 0 => by simp [hCells]
  | (s, g) :: l, a + 1 => by
    rw [List.take_succ_cons, show (a + 1) * 2 = a * 2 + 1 + 1 by omega]
    simp [hCells, hCells_take l a]
theorem news_row {w : World} {B g cap : Nat} {X : List HKey} (h : w.ownsRow B 34 2 (.slice (some ⟨g, 0, none⟩) X.length cap) X.length (hCells X)) (a m : Nat) (ha : a + m ≤ X.length) :
    ∀ (j : Nat) (u : Value), (hCells ((X.drop a).take m))[j]? = some u → w.cell? ((⟨g, a * 2, none⟩ : Addr).add j) = some u := by
  intro j u hu
  have hj : j < m * 2 := by
    have := (List.getElem?_eq_some_iff.1 hu).1
    rw [hCells_len] at this
    simp at this
    omega
  rw [hCells_take, List.getElem?_take, if_pos hj, hCells_drop, List.getElem?_drop] at hu
  rw [show (⟨g, a * 2, none⟩ : Addr).add j = ⟨g, a * 2 + j, none⟩ by unfold Addr.add; split <;> simp_all]
  rw [h.cellAt _ (by omega)]
  exact hu
theorem cutH (g n c k : Nat) (hk : k ≤ c) (W : World) : (Instr.slice 31 (.slice (some ⟨g, 0, none⟩) n c) none (some (.int .i64 k)) none).run Tryd.prog W = .ok (.slice (some ⟨g, 0, none⟩) k c) W := by
  have h5 : (sizeOf (Tryd.prog.elem 31)).run Tryd.prog W = .ok 2 W := by kernel_rfl
  rw [run_slice_h W 31 (some ⟨g, 0, none⟩) n c (by kernel_rfl) .i64 k (by omega) (by omega), h5]
  simp only [Result.andThen_ok, sliced, Int.toNat_natCast, Nat.sub_zero, Nat.zero_mul]
  congr 2
  split
  · rfl
  · simp [Addr.add]
theorem cutL (g n c k : Nat) (hk : k ≤ n) (hn : n ≤ c) : ∃ ad : Addr, (k < n → ad = ⟨g, k * 2, none⟩) ∧ ∀ W, (Instr.slice 31 (.slice (some ⟨g, 0, none⟩) n c) (some (.int .i64 k)) none none).run Tryd.prog W = .ok (.slice (some ad) (n - k) (c - k)) W := by
  have h5 : ∀ W, (sizeOf (Tryd.prog.elem 31)).run Tryd.prog W = .ok 2 W := fun W => by kernel_rfl
  by_cases e : c = k
  · refine ⟨⟨g, 0, none⟩, by omega, fun W => ?_⟩
    rw [run_slice_l W 31 (some ⟨g, 0, none⟩) n c (by kernel_rfl) .i64 k (by omega) (by omega), h5]
    simp [sliced, Result.andThen, e]
  · refine ⟨(⟨g, 0, none⟩ : Addr).add (k * 2), fun _ => by unfold Addr.add; split <;> simp_all, fun W => ?_⟩
    rw [run_slice_l W 31 (some ⟨g, 0, none⟩) n c (by kernel_rfl) .i64 k (by omega) (by omega), h5]
    simp [sliced, Result.andThen, e]
theorem some_shape {w : World} {B : Nat} {v : Value} {X : List HKey} (h : w.ownsRow B 34 2 v X.length (hCells X)) (hX : 0 < X.length) : ∃ g cap, v = .slice (some ⟨g, 0, none⟩) X.length cap ∧ X.length ≤ cap := by
  rcases h.2 with ⟨e, h⟩ | ⟨g, cap, cur, e, _, _, h3, _⟩
  · omega
  · exact ⟨g, cap, e, h3⟩
/-- The document's table with its first row, or its second, set anew. -/
theorem Rf.putX {w W : World} {B r : Nat} {X X' T : List HKey} {vX vX' vT : Value} (h : Rf w B r X T vX vT) (hk : ∀ k, k < w.heap.size → W.heap[k]? = w.heap[k]?) (hrow : W.ownsRow B 34 2 vX' X'.length (hCells X')) (hfr : ∀ g, vX'.ownBlock = some g → w.heap.size ≤ g) (hl : X'.length ≤ 1000) :
    Rf (W.setCell ⟨r, 0, none⟩ vX') B r X' T vX' vT := by
  have hr := heap_lt h.cells
  have hrX : vX'.ownBlock ≠ some r := fun e => by have := hfr r e; omega
  refine ⟨?_, h.rB, row_other hrow hrX, row_other (row_kept h.rowT fun g hg => hk _ (h.rowT.lt g hg).2) h.nb.2, fun g hg e => ?_, hl, h.lenT⟩
  · have := heap_setCell_same W r 0 _ _ vX' ((hk r hr).trans h.cells)
    simpa using this
  · have := hfr g hg
    have := (h.rowT.lt g e).2
    omega
set_option maxHeartbeats 2000000 in
theorem rdrop_ok (w : World) (B r : Nat) (X T : List HKey) (vX vT : Value) (h : Rf w B r X T vX vT) (L : Int → Option Nat) (hM : Mt X L) (s : Int) (g : Nat) (hL : L s = some g) (k : Nat) (hk : X[k]? = some (s, g)) (hd : ∀ (j : Nat) (x : HKey), j < k → X[j]? = some x → x.1 ≠ s) :
    Calls Tryd.prog 62 #[.pointer (some ⟨r, 0, none⟩), .agg #[.int .i64 s, .int .u64 g]] w fun e w' => e = .returned (.int .i64 0) ∧ (∃ vX', Rf w' B r (X.take k ++ X.drop (k + 1)) T vX' vT ∧ ∀ g', vX'.ownBlock = some g' → w.heap.size ≤ g') ∧ Fx B r vX vT w w' := by
  have hkl := (List.getElem?_eq_some_iff.1 hk).1
  have hlX := h.lenX
  have hB := h.size
  have hb1 := (Below.refl _ w).alloc (Nat.le_refl _) (.cells #[.int .i64 s, .int .u64 g] 34)
  have h1 := h.below hb1
  have hy := heap_alloc_new w (.cells #[.int .i64 s, .int .u64 g] 34)
  have k1 := rlives_any _ B r X T vX vT h1 L hM s g
  rw [show (L s == some g) = true by simp [hL]] at k1
  obtain ⟨i34, hi34, hz0, hz1, hz2⟩ := info_parts info34
  go_enter Tryd.func62, Tryd.ntmps62
  go_upto_region 3 with (go_at_call 72; refine k1.mono ?_; rintro e w1 ⟨rfl, hb2⟩)
  have hbw : Below w.heap.size w w1 := hb1.trans (hb2.mono (by simp))
  have h2 := h.below hbw
  have hy1 : w1.heap[w.heap.size]? = some (.cells #[.int .i64 s, .int .u64 g] 34 (0, 0)) := (hb2.block _ (by simp)).trans hy
  have y0 := cell_of hy1 0
  simp at y0
  clear k1 hb1 h1 hy
  have k2 := at_yes w1 B r X T vX vT h2 s k g hk hd
  obtain ⟨gX, cX, rfl, hcX⟩ := some_shape h2.rowX (by omega)
  have c0 : w1.cell? ⟨r, 0, none⟩ = some (.slice (some ⟨gX, 0, none⟩) X.length cX) := by rw [cell_of h2.cells]; rfl
  have q1 := cutH gX X.length cX k (by omega) w1
  have hn1 := news_row h2.rowX 0 k (by omega)
  rw [List.drop_zero] at hn1
  have hw1 : B ≤ w1.heap.size := h2.size
  have e9 : IntKind.i64.wrap ((k : Int) + 1) = (k : Int) + 1 := IntWalk.i64_in _ (by omega)
  go_upto_region 6 with (first
    | (go_at_call 60; refine k2.mono ?_; rintro e w' ⟨rfl, hw⟩; rw [hw]; clear hw)
    | (at_builtin; refine wpList_append_own_at _ rfl _ _ 31 rfl w1.heap.size 34 i34 (.agg #[.int .i64 0, .int .u64 0]) 2 16 Tryd.underlying31 hi34 hz0 hz1 hz2 rfl (by decide) (.slice none 0 0) 0 [] rfl (World.ownsRow_nil _ _ _ _) ⟨gX, 0, none⟩ k cX (hCells (X.take k)) rfl (by rw [hCells_len]; simp; omega) hn1 (hCells_one _) (by simp [maxLen]; omega) (by omega) (Nat.le_refl _) ?_; go_loud (intro v2 w2 hown2 hgrow2 hnil2 hloc2; rw [Nat.zero_add, List.nil_append] at hown2; obtain ⟨p2, c2, rfl⟩ : ∃ p cap, v2 = .slice p k cap := own_shape hown2)))
  have hk2 : ∀ i, i < w1.heap.size → w2.heap[i]? = w1.heap[i]? := fun i hi => hgrow2.block i hi (by simp [Value.ownBlock])
  have hr1 := heap_lt h2.cells
  have c0' : w2.cell? ⟨r, 0, none⟩ = some (.slice (some ⟨gX, 0, none⟩) X.length cX) := by rw [cell_of ((hk2 r hr1).trans h2.cells)]; rfl
  obtain ⟨ad, had, q2⟩ := cutL gX X.length cX (k + 1) (by omega) hcX
  have q2' := q2 w2
  rw [show ((k + 1 : Nat) : Int) = (k : Int) + 1 by simp] at q2'
  have hrX2 : w2.ownsRow B 34 2 (.slice (some ⟨gX, 0, none⟩) X.length cX) X.length (hCells X) := row_kept h2.rowX fun g' hg' => hk2 _ (h2.rowX.lt g' hg').2
  have hn2 : ∀ (j : Nat) (u : Value), (hCells (X.drop (k + 1)))[j]? = some u → w2.cell? (ad.add j) = some u := by
    by_cases e : k + 1 < X.length
    · have := news_row hrX2 (k + 1) (X.length - (k + 1)) (by omega)
      rw [List.take_of_length_le (by simp)] at this
      rw [had e]
      exact this
    · intro j u hu
      rw [List.drop_of_length_le (by omega)] at hu
      simp [hCells] at hu
  have hw2 : w1.heap.size ≤ w2.heap.size := hgrow2.size
  clear c0 q1 q2 hn1 k2
  go_upto_region 7 with (at_builtin; refine wpList_append_own_at _ rfl _ _ 31 rfl w1.heap.size 34 i34 (.agg #[.int .i64 0, .int .u64 0]) 2 16 Tryd.underlying31 hi34 hz0 hz1 hz2 rfl (by decide) (.slice p2 k c2) k (hCells (X.take k)) rfl hown2 ad (X.length - (k + 1)) (cX - (k + 1)) (hCells (X.drop (k + 1))) rfl (by rw [hCells_len]; simp) hn2 (hCells_one _) (by simp [maxLen]; omega) (by omega) hw2 ?_; go_loud (intro v3 w3 hown3 hgrow3 hnil3 hloc3; obtain ⟨p3, c3, rfl⟩ : ∃ p cap, v3 = .slice p (k + (X.length - (k + 1))) cap := own_shape hown3; have hr3 : w3.heap[r]? = some (.cells #[.slice (some ⟨gX, 0, none⟩) X.length cX, vT] 54 (0, 0)) := (by rw [hgrow3.block r (by omega) (fun e => by have := (hown2.lt r e.symm).1; omega)]; exact (hk2 r hr1).trans h2.cells); have c03 := cell_of hr3 0; have f03 := froz_of hr3 0; simp at c03))
  have hk3 : ∀ i, i < w1.heap.size → w3.heap[i]? = w1.heap[i]? := fun i hi => (hgrow3.block i (by omega) (fun e => by have := (hown2.lt i e.symm).1; omega)).trans (hk2 i hi)
  have hlen : (X.take k ++ X.drop (k + 1)).length = k + (X.length - (k + 1)) := by simp; omega
  have hR := h2.putX (W := w3) (X' := X.take k ++ X.drop (k + 1)) (vX' := .slice p3 (k + (X.length - (k + 1))) c3) hk3 (by rw [hlen, hCells_app]; exact row_base hown3 hw1) (fun g' hg' => (hown3.lt g' hg').1) (by omega)
  have hrB : B ≤ r := h2.rB
  have hw3 : w1.heap.size ≤ w3.heap.size := Nat.le_trans hw2 hgrow3.size
  have hF : Fx B r (.slice (some ⟨gX, 0, none⟩) X.length cX) vT w (w3.setCell ⟨r, 0, none⟩ (.slice p3 (k + (X.length - (k + 1))) c3)) := by
    refine ⟨⟨?_, ?_, ?_, ?_, fun i hi => ?_⟩, fun i hi h1' _ _ => ?_⟩
    · exact hgrow3.os.trans (hgrow2.os.trans hbw.os)
    · exact hgrow3.tape.trans (hgrow2.tape.trans hbw.tape)
    · exact hgrow3.output.trans (hgrow2.output.trans hbw.output)
    · have := hbw.size; simp [World.setCell]; omega
    · rw [Below.heap_setCell _ _ _ _ (by simp; omega), hk3 i (by have := hbw.size; omega)]
      exact hbw.block i (by omega)
    · rw [Below.heap_setCell _ _ _ _ (by simpa using h1'), hk3 i (by have := hbw.size; omega)]
      exact hbw.block i hi
  have hNf : ∀ g', (Value.slice p3 (k + (X.length - (k + 1))) c3).ownBlock = some g' → w.heap.size ≤ g' := fun g' hg' => Nat.le_trans hbw.size (hown3.lt g' hg').1
  clear c03 f03 q2' c0'
  generalize w3.setCell ⟨r, 0, none⟩ (.slice p3 (k + (X.length - (k + 1))) c3) = W4 at hR hF ⊢
  go_wp2
  all_goals go_returns
  all_goals exact ⟨rfl, ⟨_, hR, hNf⟩, hF⟩
end Go.Proofs.YtooblonafnlfcaaDoor.H
