/- Towards ListPlays: the document's Put, Push. -/
import Derived.Test.YthgmfcklipkbiaaRA
namespace Go.Proofs.Ythgmfcklipkbiaa
open Go.ChangeShapes Go.WideShapes Go.ChangeAt Go.RowKit
set_option linter.unusedVariables false
set_option linter.unusedSimpArgs false
set_option maxRecDepth 20000
theorem cutN (W : World) : (Instr.slice 27 (.slice none 0 0) none (some (.int .i64 0)) none).run Try.prog W = .ok (.slice none 0 0) W := by kernel_rfl
theorem cutN2 (W : World) : (Instr.slice 27 (.slice none 0 0) (some (.int .i64 0)) none none).run Try.prog W = .ok (.slice none 0 0) W := by kernel_rfl
theorem row_shape {w : World} {B : Nat} {v : Value} {X : List HKey} (h : w.ownsRow B 34 2 v X.length (hCells X)) : (v = .slice none 0 0 ∧ X = []) ∨ ∃ g cap, v = .slice (some ⟨g, 0, none⟩) X.length cap ∧ X.length ≤ cap := by
  rcases h.2 with ⟨e, h⟩ | ⟨g, cap, cur, e, _, _, h3, _⟩
  · exact .inl ⟨e, List.eq_nil_of_length_eq_zero h⟩
  · exact .inr ⟨g, cap, e, h3⟩
set_option maxHeartbeats 2000000 in
theorem rput_nil (w : World) (B r : Nat) (h : Rl w B r [] (.slice none 0 0)) (k : HKey) :
    Calls Try.prog 28 #[.pointer (some ⟨r, 0, none⟩), .int .i64 0, .agg #[.int .i64 k.1, .int .u64 k.2]] w fun e w' => e = .returned (.tuple #[]) ∧ (∃ v', Rl w' B r [k] v') ∧ FR B r w w' := by
  have hB := h.size
  have hrl := heap_lt h.cells
  have hb1 := (Below.refl _ w).alloc (Nat.le_refl _) (.cells #[.int .i64 k.1, .int .u64 k.2] 34)
  have h1 := h.below hb1
  have hy1 := heap_alloc_new w (.cells #[.int .i64 k.1, .int .u64 k.2] 34)
  obtain ⟨i34, hi34, hz0, hz1, hz2⟩ := info_parts info34
  go_enter Try.func28, Try.ntmps28
  go_upto_region 2 with fail
  generalize w.alloc (.cells #[.int .i64 k.1, .int .u64 k.2] 34) = W at h1 hb1 hy1 ⊢
  have c0 : W.cell? ⟨r, 0, none⟩ = some (.slice none 0 0) := by rw [cell_of h1.cells]; rfl
  have x0 := cell_of hy1 0
  have x1 := cell_of hy1 1
  simp at x0 x1
  have q1 := cutN W
  have hBW : B ≤ W.heap.size := h1.size
  go_upto_region 3 with (at_builtin; refine wpList_append_own_none rfl _ _ 27 rfl W.heap.size 34 i34 2 Try.underlying27 hi34 (.slice none 0 0) 0 [] rfl (World.ownsRow_nil _ _ _ _) rfl ?_)
  go_upto_region 4 with (at_builtin; refine wpList_append_own_at _ rfl _ _ 27 rfl W.heap.size 34 i34 (.agg #[.int .i64 0, .int .u64 0]) 2 16 Try.underlying27 hi34 hz0 hz1 hz2 rfl (by decide) (.slice none 0 0) 0 [] rfl (World.ownsRow_nil _ _ _ _) _ 1 1 [.int .i64 k.1, .int .u64 k.2] rfl rfl (news_new _ _ _ _ rfl) (by simp [Value.oneCell']) (by simp [maxLen]) (by omega) (by simp) ?_; go_loud (intro v3 w3 hown3 hgrow3 hnil3 hloc3; rw [Nat.zero_add, List.nil_append] at hown3; obtain ⟨p3, c3, rfl⟩ : ∃ p cap, v3 = .slice p 1 cap := own_shape hown3))
  have hk3 : ∀ i, i < W.heap.size → w3.heap[i]? = W.heap[i]? := fun i hi => (hgrow3.block i (by simp; omega) (by simp [Value.ownBlock])).trans (Below.heap_alloc _ _ _ hi)
  have hw3 : W.heap.size ≤ w3.heap.size := by have := hgrow3.size; simp at this; omega
  have hr1 := heap_lt h1.cells
  have hr3 : w3.heap[r]? = some (.cells #[.slice none 0 0] 31 (0, 0)) := (hk3 r hr1).trans h1.cells
  have c03 := cell_of hr3 0
  have f03 := froz_of hr3 0
  simp at c03
  have q2 := cutN2 w3
  clear x0 x1 q1 c0
  have hR := h1.put (W := w3) (X' := [k]) (v' := .slice p3 1 c3) hk3 (by simp only [hCells, List.length_singleton]; exact row_base hown3 hBW) (fun g' hg' => (hown3.lt g' hg').1) (by simp)
  have hrB : B ≤ r := h1.rB
  have hwl := hb1.size
  have hF : FR B r w (w3.setCell ⟨r, 0, none⟩ (.slice p3 1 c3)) := by
    refine ⟨⟨?_, ?_, ?_, ?_, fun i hi => ?_⟩, fun i hi h1' => ?_⟩
    · exact hgrow3.os.trans hb1.os
    · exact hgrow3.tape.trans hb1.tape
    · exact hgrow3.output.trans hb1.output
    · simp [World.setCell]; omega
    · rw [Below.heap_setCell _ _ _ _ (by simp; omega), hk3 i (by omega)]
      exact hb1.block i (by omega)
    · rw [Below.heap_setCell _ _ _ _ (by simpa using h1'), hk3 i (by omega)]
      exact hb1.block i hi
  replace hR : Hid _ := hR
  replace hF : Hid _ := hF
  go_wp2_with (at_builtin; refine wpList_append_own_none rfl _ _ 27 rfl W.heap.size 34 i34 2 Try.underlying27 hi34 (.slice p3 1 c3) 1 [.int .i64 k.1, .int .u64 k.2] rfl hown3 rfl ?_)
  all_goals go_returns
  all_goals exact ⟨rfl, ⟨_, hR.out⟩, hF.out⟩
set_option maxHeartbeats 2000000 in
theorem rput_some (w : World) (B r : Nat) (X : List HKey) (gX cX : Nat) (h : Rl w B r X (.slice (some ⟨gX, 0, none⟩) X.length cX)) (hcX : X.length ≤ cX) (i : Nat) (hi : i ≤ X.length) (hl : X.length + 1 ≤ 1000) (k : HKey) :
    Calls Try.prog 28 #[.pointer (some ⟨r, 0, none⟩), .int .i64 i, .agg #[.int .i64 k.1, .int .u64 k.2]] w fun e w' => e = .returned (.tuple #[]) ∧ (∃ v', Rl w' B r (X.take i ++ [k] ++ X.drop i) v') ∧ FR B r w w' := by
  have hB := h.size
  have hrl := heap_lt h.cells
  have hb1 := (Below.refl _ w).alloc (Nat.le_refl _) (.cells #[.int .i64 k.1, .int .u64 k.2] 34)
  have h1 := h.below hb1
  have hy1 := heap_alloc_new w (.cells #[.int .i64 k.1, .int .u64 k.2] 34)
  obtain ⟨i34, hi34, hz0, hz1, hz2⟩ := info_parts info34
  go_enter Try.func28, Try.ntmps28
  go_upto_region 2 with fail
  generalize w.alloc (.cells #[.int .i64 k.1, .int .u64 k.2] 34) = w1 at h1 hb1 hy1 ⊢
  have c0 : w1.cell? ⟨r, 0, none⟩ = some (.slice (some ⟨gX, 0, none⟩) X.length cX) := by rw [cell_of h1.cells]; rfl
  have q1 := cutH gX X.length cX i (by omega) w1
  have hn1 := news_row h1.row 0 i (by omega)
  rw [List.drop_zero] at hn1
  have hw1 : B ≤ w1.heap.size := h1.size
  go_upto_region 3 with (at_builtin; refine wpList_append_own_at _ rfl _ _ 27 rfl w1.heap.size 34 i34 (.agg #[.int .i64 0, .int .u64 0]) 2 16 Try.underlying27 hi34 hz0 hz1 hz2 rfl (by decide) (.slice none 0 0) 0 [] rfl (World.ownsRow_nil _ _ _ _) ⟨gX, 0, none⟩ i cX (hCells (X.take i)) rfl (by rw [hCells_len]; simp; omega) hn1 (hCells_one _) (by simp [maxLen]; omega) (by omega) (Nat.le_refl _) ?_; go_loud (intro v2 w2 hown2 hgrow2 hnil2 hloc2; rw [Nat.zero_add, List.nil_append] at hown2; obtain ⟨p2, c2, rfl⟩ : ∃ p cap, v2 = .slice p i cap := own_shape hown2))
  have hk2 : ∀ i, i < w1.heap.size → w2.heap[i]? = w1.heap[i]? := fun i hi => hgrow2.block i hi (by simp [Value.ownBlock])
  have hw2 : w1.heap.size ≤ w2.heap.size := hgrow2.size
  have hr1 := heap_lt h1.cells
  have hy2 := (hk2 _ (heap_lt hy1)).trans hy1
  have x0 := cell_of hy2 0
  have x1 := cell_of hy2 1
  simp at x0 x1
  clear c0 q1 hn1
  go_upto_region 4 with (at_builtin; refine wpList_append_own_at _ rfl _ _ 27 rfl w1.heap.size 34 i34 (.agg #[.int .i64 0, .int .u64 0]) 2 16 Try.underlying27 hi34 hz0 hz1 hz2 rfl (by decide) (.slice p2 i c2) i (hCells (X.take i)) rfl (hown2.alloc _) _ 1 1 [.int .i64 k.1, .int .u64 k.2] rfl rfl (news_new _ _ _ _ rfl) (by simp [Value.oneCell']) (by simp [maxLen]; omega) (by omega) (by simp; omega) ?_; go_loud (intro v3 w3 hown3 hgrow3 hnil3 hloc3; obtain ⟨p3, c3, rfl⟩ : ∃ p cap, v3 = .slice p (i + 1) cap := own_shape hown3))
  have hk3 : ∀ i, i < w1.heap.size → w3.heap[i]? = w1.heap[i]? := fun i hi => (hgrow3.block i (by simp; omega) (fun e => by have := (hown2.lt i e.symm).1; omega)).trans ((Below.heap_alloc _ _ _ (by omega)).trans (hk2 i hi))
  have hw3 : w1.heap.size ≤ w3.heap.size := by have := hgrow3.size; simp at this; omega
  have hr3 : w3.heap[r]? = some (.cells #[.slice (some ⟨gX, 0, none⟩) X.length cX] 31 (0, 0)) := (hk3 r hr1).trans h1.cells
  have c03 : w3.cell? ⟨r, 0, none⟩ = some (.slice (some ⟨gX, 0, none⟩) X.length cX) := by rw [cell_of hr3]; rfl
  obtain ⟨ad, had, q2⟩ := cutL gX X.length cX i hi hcX
  have q2' := q2 w3
  have hrX3 : w3.ownsRow B 34 2 (.slice (some ⟨gX, 0, none⟩) X.length cX) X.length (hCells X) := row_kept h1.row fun g' hg' => hk3 _ (h1.row.lt g' hg').2
  have hn3 : ∀ (j : Nat) (u : Value), (hCells (X.drop i))[j]? = some u → w3.cell? (ad.add j) = some u := by
    by_cases e : i < X.length
    · have := news_row hrX3 i (X.length - i) (by omega)
      rw [List.take_of_length_le (by simp)] at this
      rw [had e]
      exact this
    · intro j u hu
      rw [List.drop_of_length_le (by omega)] at hu
      simp [hCells] at hu
  have hcells3 : hCells (X.take i) ++ [.int .i64 k.1, .int .u64 k.2] = hCells (X.take i ++ [k]) := by rw [hCells_app]; rfl
  rw [hcells3] at hown3
  clear x0 x1 q2
  go_wp2_with (at_builtin; refine wpList_append_own_at _ rfl _ _ 27 rfl w1.heap.size 34 i34 (.agg #[.int .i64 0, .int .u64 0]) 2 16 Try.underlying27 hi34 hz0 hz1 hz2 rfl (by decide) (.slice p3 (i + 1) c3) (i + 1) (hCells (X.take i ++ [k])) rfl hown3 ad (X.length - i) (cX - i) (hCells (X.drop i)) rfl (by rw [hCells_len]; simp) hn3 (hCells_one _) (by simp [maxLen]; omega) (by omega) hw3 ?_; go_loud (intro v4 w4 hown4 hgrow4 hnil4 hloc4; obtain ⟨p4, c4, rfl⟩ : ∃ p cap, v4 = .slice p (i + 1 + (X.length - i)) cap := own_shape hown4; have hr4 : w4.heap[r]? = some (.cells #[.slice (some ⟨gX, 0, none⟩) X.length cX] 31 (0, 0)) := (by rw [hgrow4.block r (by omega) (fun e => by have := (hown3.lt r e.symm).1; omega)]; exact hr3); have c04 := cell_of hr4 0; have f04 := froz_of hr4 0; simp at c04))
  have hk4 : ∀ i, i < w1.heap.size → w4.heap[i]? = w1.heap[i]? := fun i hi => (hgrow4.block i (by omega) (fun e => by have := (hown3.lt i e.symm).1; omega)).trans (hk3 i hi)
  have hlen : (X.take i ++ [k] ++ X.drop i).length = i + 1 + (X.length - i) := by simp; omega
  have hR := h1.put (W := w4) (X' := X.take i ++ [k] ++ X.drop i) (v' := .slice p4 (i + 1 + (X.length - i)) c4) hk4 (by rw [hlen, hCells_app]; exact row_base hown4 hw1) (fun g' hg' => (hown4.lt g' hg').1) (by omega)
  have hrB : B ≤ r := h1.rB
  have hw4 : w1.heap.size ≤ w4.heap.size := Nat.le_trans hw3 hgrow4.size
  have hwl := hb1.size
  have hF : FR B r w (w4.setCell ⟨r, 0, none⟩ (.slice p4 (i + 1 + (X.length - i)) c4)) := by
    refine ⟨⟨?_, ?_, ?_, ?_, fun i hi => ?_⟩, fun i hi h1' => ?_⟩
    · exact hgrow4.os.trans (hgrow3.os.trans (hgrow2.os.trans hb1.os))
    · exact hgrow4.tape.trans (hgrow3.tape.trans (hgrow2.tape.trans hb1.tape))
    · exact hgrow4.output.trans (hgrow3.output.trans (hgrow2.output.trans hb1.output))
    · simp [World.setCell]; omega
    · rw [Below.heap_setCell _ _ _ _ (by simp; omega), hk4 i (by omega)]
      exact hb1.block i (by omega)
    · rw [Below.heap_setCell _ _ _ _ (by simpa using h1'), hk4 i (by omega)]
      exact hb1.block i hi
  all_goals go_returns
  all_goals exact ⟨rfl, ⟨.slice p4 (i + 1 + (X.length - i)) c4, by rw [List.append_assoc, List.singleton_append] at hR; exact hR⟩, hF⟩
theorem rput_any (w : World) (B r : Nat) (X : List HKey) (v : Value) (h : Rl w B r X v) (i : Nat) (hi : i ≤ X.length) (hl : X.length + 1 ≤ 1000) (k : HKey) :
    Calls Try.prog 28 #[.pointer (some ⟨r, 0, none⟩), .int .i64 i, .agg #[.int .i64 k.1, .int .u64 k.2]] w fun e w' => e = .returned (.tuple #[]) ∧ (∃ v', Rl w' B r (X.take i ++ [k] ++ X.drop i) v') ∧ FR B r w w' := by
  rcases row_shape h.row with ⟨rfl, rfl⟩ | ⟨g, c, rfl, hc⟩
  · obtain rfl : i = 0 := by simpa using hi
    exact rput_nil w B r h k
  · exact rput_some w B r X g c h hc i hi hl k
end Go.Proofs.Ythgmfcklipkbiaa
