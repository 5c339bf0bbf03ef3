/- Towards HandlePlays: the document's Make. -/
import Derived.Test.YtooblonafnlfcaaDoorRD
namespace Go.Proofs.YtooblonafnlfcaaDoor.H
open Go.ChangeShapes Go.WideShapes Go.ChangeAt Go.RowKit
set_option linter.unusedVariables false
set_option linter.unusedSimpArgs false
set_option maxRecDepth 20000
theorem Mt.ins {X : List HKey} {L : Int → Option Nat} (h : Mt X L) {s : Int} {g k : Nat} (hL : L s = none) (hlo : ∀ x ∈ X.take k, x.1 < s) (hhi : ∀ x ∈ X.drop k, s < x.1) : Mt (X.take k ++ (s, g) :: X.drop k) (updL L s (some g)) := by
  refine ⟨fun s' g' => ?_, ?_⟩
  · by_cases e : s' = s
    · subst e
      simp only [updL, if_true, List.mem_append, List.mem_cons, Prod.mk.injEq, true_and]
      constructor
      · rintro (h1 | h1 | h1)
        · have := hlo _ h1; simp at this
        · rw [h1]
        · have := hhi _ h1; simp at this
      · intro h1; right; left; exact (Option.some.inj h1).symm
    · rw [show updL L s (some g) s' = L s' by simp [updL, e], ← h.mem]
      simp only [List.mem_append, List.mem_cons, Prod.mk.injEq, e, false_and, false_or]
      rw [← List.mem_append, List.take_append_drop]
  · rw [List.pairwise_append]
    have h0 := h.up
    rw [← List.take_append_drop k X, List.pairwise_append] at h0
    refine ⟨h0.1, List.pairwise_cons.2 ⟨fun x hx => hhi x hx, h0.2.1⟩, fun a ha b hb => ?_⟩
    rcases List.mem_cons.1 hb with rfl | hb
    · exact hlo a ha
    · exact h0.2.2 a ha b hb
theorem Mt.era {X : List HKey} {L : Int → Option Nat} (h : Mt X L) {s : Int} {g k : Nat} (hk : X[k]? = some (s, g)) (hL : L s = some g) : Mt (X.take k ++ X.drop (k + 1)) (updL L s none) := by
  have hkl := (List.getElem?_eq_some_iff.1 hk).1
  have hX : X = X.take k ++ (s, g) :: X.drop (k + 1) := by
    have := List.take_append_drop k X
    rw [List.drop_eq_getElem_cons hkl] at this
    have e : X[k] = (s, g) := (List.getElem?_eq_some_iff.1 hk).2
    rw [e] at this
    exact this.symm
  have h0 := h.up
  rw [hX, List.pairwise_append, List.pairwise_cons] at h0
  refine ⟨fun s' g' => ?_, ?_⟩
  · by_cases e : s' = s
    · subst e
      simp only [updL, if_true, List.mem_append]
      constructor
      · rintro (h1 | h1)
        · have := h0.2.2 _ h1 (s', g) (by simp); simp at this
        · have := h0.2.1.1 _ h1; simp at this
      · intro h1; cases h1
    · simp only [updL, if_neg e]
      rw [← h.mem]
      conv => rhs; rw [hX]
      simp [e]
  · rw [List.pairwise_append]
    exact ⟨h0.1, h0.2.1.2, fun a ha b hb => h0.2.2 a ha b (by simp [hb])⟩
def RMk (w w' : World) (B r : Nat) (L : Int → Option Nat) (N : Int → Nat) (s : Int) (n : Nat) (vX vT : Value) : Prop := ∃ X2 T2 vX2 vT2, Rf w' B r X2 T2 vX2 vT2 ∧ Mt X2 (updL L s (some (N s + 1))) ∧ Nt T2 (updN N s (N s + 1)) ∧ T2.length ≤ n + 1 ∧ Fx B r vX vT w w' ∧ (∀ g, vX2.ownBlock = some g → w.heap.size ≤ g) ∧ ∀ g, vT2.ownBlock = some g → vT.ownBlock = some g ∨ w.heap.size ≤ g
theorem rmake_arg (w : World) (B r : Nat) (s : Int) (hs : s < 0) : Calls Tryd.prog 35 #[.pointer (some ⟨r, 0, none⟩), .int .i64 s] w fun e w' => e = .returned (.tuple #[.agg #[.int .i64 0, .int .u64 0], .int .i64 2]) ∧ Below w.heap.size w w' := by
  go_enter Tryd.func35, Tryd.ntmps35
  go_wp2
  all_goals go_returns
  all_goals exact ⟨rfl, (Below.refl _ w).alloc (Nat.le_refl _) _⟩
theorem rmake_there (w : World) (B r : Nat) (X T : List HKey) (vX vT : Value) (h : Rf w B r X T vX vT) (L : Int → Option Nat) (hM : Mt X L) (s : Int) (hs : 0 ≤ s) (g : Nat) (hL : L s = some g) : Calls Tryd.prog 35 #[.pointer (some ⟨r, 0, none⟩), .int .i64 s] w fun e w' => e = .returned (.tuple #[.agg #[.int .i64 0, .int .u64 0], .int .i64 7]) ∧ Below w.heap.size w w' := by
  obtain ⟨k, hk, hd⟩ := hM.yes hL
  have k1 := at_yes _ B r X T vX vT (h.alloc (.cells #[.int .i64 0, .int .u64 0] 34)) s k g hk hd
  have dk : decide ((0 : Int) ≤ (k : Int)) = true := by simp
  go_enter Tryd.func35, Tryd.ntmps35
  go_wp2_with (go_at_call 60; refine k1.mono ?_; rintro e w' ⟨rfl, hw⟩; rw [hw]; clear hw)
  all_goals go_returns
  all_goals exact ⟨rfl, (Below.refl _ w).alloc (Nat.le_refl _) _⟩
set_option maxHeartbeats 4000000 in
theorem rmake_ok (w : World) (B r : Nat) (X T : List HKey) (vX vT : Value) (h : Rf w B r X T vX vT) (L : Int → Option Nat) (hM : Mt X L) (N : Int → Nat) (hN : Nt T N) (s : Int) (hs : 0 ≤ s) (hL : L s = none) (hl1 : T.length + 1 ≤ 1000) (hlX1 : X.length + 1 ≤ 1000) (hNs : N s ≤ 1000000) (hsome : ∃ g, vX.ownBlock = some g) :
    Calls Tryd.prog 35 #[.pointer (some ⟨r, 0, none⟩), .int .i64 s] w fun e w' => e = .returned (.tuple #[.agg #[.int .i64 s, .int .u64 ((N s : Int) + 1)], .int .i64 0]) ∧ RMk w w' B r L N s T.length vX vT := by
  have hBw := h.size
  have hb0 := (Below.refl _ w).alloc (Nat.le_refl _) (.cells #[.int .i64 0, .int .u64 0] 34)
  have h0 := h.below hb0
  have hy0 := heap_alloc_new w (.cells #[.int .i64 0, .int .u64 0] 34)
  have k1 := at_no _ B r X T vX vT h0 s (hM.no hL)
  have k2 := gen_any _ B r X T vX vT h0 N hN s hl1 hNs
  obtain ⟨gn, hgn⟩ : ∃ gn : Int, (N s : Int) + 1 = gn := ⟨_, rfl⟩
  rw [hgn] at k2
  replace hgn : Hid _ := hgn
  obtain ⟨i34, hi34, hz0, hz1, hz2⟩ := info_parts info34
  obtain ⟨gX, hgX⟩ := hsome
  have hgXl := (h.rowX.lt gX hgX).2
  obtain ⟨cX, rfl, hcX⟩ : ∃ cX, vX = .slice (some ⟨gX, 0, none⟩) X.length cX ∧ X.length ≤ cX := by
    rcases h.rowX.2 with ⟨e, _⟩ | ⟨g', cap, cur, e, _, _, h3, _⟩
    · subst e; cases hgX
    · subst e
      simp only [Value.ownBlock, Option.some.injEq] at hgX
      subst hgX
      exact ⟨cap, rfl, h3⟩
  have hTl : ∀ g, vT.ownBlock = some g → g < w.heap.size := fun g hg => (h.rowT.lt g hg).2
  go_enter Tryd.func35, Tryd.ntmps35
  go_upto_region 6 with (first | (go_at_call 60; refine k1.mono ?_; rintro e w' ⟨rfl, hw⟩; rw [hw]; clear hw) | (go_at_call 61; refine k2.mono ?_; rintro e w1 ⟨rfl, ⟨T', vT', hR1, hNT', hT'l, hTn⟩, hF1⟩))
  have hr0 := heap_lt h.cells
  have hs0 : (w.alloc (.cells #[.int .i64 0, .int .u64 0] 34)).heap.size = w.heap.size + 1 := by simp
  have hy1 : w1.heap[w.heap.size]? = some (.cells #[.int .i64 0, .int .u64 0] 34 (0, 0)) := (hF1.keep _ (by omega) (by omega) (fun e => by simp only [Value.ownBlock, Option.some.injEq] at e; omega) (fun e => by have := hTl _ e.symm; omega)).trans hy0
  have hz := heap_alloc_new w1 (.cells #[.int .i64 s, .int .u64 gn] 34)
  have hRW := hR1.alloc (.cells #[.int .i64 s, .int .u64 gn] 34)
  have hyW := heap_al hy1 (.cells #[.int .i64 s, .int .u64 gn] 34)
  have hs1 : w.heap.size + 1 ≤ w1.heap.size := by have := hF1.bel.size; omega
  have hbW : Below B w (w1.alloc (.cells #[.int .i64 s, .int .u64 gn] 34)) := ((hb0.mono hBw).trans hF1.bel).alloc hR1.size _
  have hkW : ∀ i, i < w.heap.size → i ≠ r → some i ≠ (Value.slice (some ⟨gX, 0, none⟩) X.length cX).ownBlock → some i ≠ vT.ownBlock → (w1.alloc (.cells #[.int .i64 s, .int .u64 gn] 34)).heap[i]? = w.heap[i]? := fun i hi h1' h2' h3' => ((Below.heap_alloc _ _ _ (by omega)).trans (hF1.keep i (by omega) h1' h2' h3')).trans (hb0.block i hi)
  have hsW : w1.heap.size < (w1.alloc (.cells #[.int .i64 s, .int .u64 gn] 34)).heap.size := by simp
  clear k1 k2 hR1 hF1 h0 hy0 hb0
  generalize w1.alloc (.cells #[.int .i64 s, .int .u64 gn] 34) = W at hz hRW hyW hbW hkW hsW ⊢
  generalize w1.heap.size = z at hz hs1 hsW ⊢
  have hrW := heap_lt hRW.cells
  have c0 : W.cell? ⟨r, 0, none⟩ = some (.slice (some ⟨gX, 0, none⟩) X.length cX) := by rw [cell_of hRW.cells]; rfl
  go_wp2
  go_loopw [7] (fun n7 wr => ∃ k : Nat, n7 = .int .i64 k ∧ k ≤ X.length ∧ (∀ (j : Nat) (x : HKey), j < k → X[j]? = some x → x.1 < s) ∧ wr = W) (fun n7 _ => X.length - (valOf n7).toNat)
  case atStart => exact ⟨0, rfl, by omega, fun j x hj => by omega, rfl⟩
  case round =>
    obtain ⟨k, rfl, hk, hlo, hw⟩ := hrel
    rw [hw]; clear hw
    by_cases hin : k < X.length
    · have d : decide ((k : Int) < X.length) = true := by simp; omega
      have e9 : IntKind.i64.wrap ((k : Int) + 1) = (k : Int) + 1 := IntWalk.i64_in _ (by omega)
      obtain ⟨g, x, hx, hgl, hgo, hc0, hc1, hai⟩ := idx34 hRW.rowX hin (by omega)
      have hne := hM.no hL x (List.mem_of_getElem? hx)
      obtain ⟨xs, xg⟩ := x
      simp only at hc0 hc1 hne
      by_cases hlt : xs < s
      · have d2 : decide (xs < s) = true := by simp; omega
        replace hlo : Hid _ := hlo
        go_wp2
        refine ⟨⟨k + 1, by simp, by omega, fun j y hj hy => ?_, by trivial⟩, by simp [valOf]; omega⟩
        by_cases e : j = k
        · subst e; rw [hx] at hy; obtain rfl := Option.some.inj hy; exact hlt
        · exact hlo.out j y (by omega) hy
      · have d2 : decide (xs < s) = false := by simp; omega
        have hhi : ∀ y ∈ X.drop k, s < y.1 := fun y hy => by
          obtain ⟨j, hj⟩ := List.getElem?_of_mem hy
          rw [List.getElem?_drop] at hj
          by_cases e : j = 0
          · subst e
            rw [Nat.add_zero, hx] at hj
            obtain rfl := Option.some.inj hj
            simp only; omega
          · have := up_at hM.up hx hj (by omega)
            simp only at this; omega
        have hlo2 : ∀ y ∈ X.take k, y.1 < s := fun y hy => by
          obtain ⟨j, hj⟩ := List.getElem?_of_mem hy
          rw [List.getElem?_take] at hj
          split at hj
          · rename_i hlt'; exact hlo j y hlt' hj
          · cases hj
        replace hlo : Hid _ := hlo
        replace hhi : Hid _ := hhi
        replace hlo2 : Hid _ := hlo2
        go_upto_region 10 with fail
        clear d
        clear d2 hai hc0 hc1
        replace hin : Hid _ := hin
        have hX' : Mt (X.take k ++ (s, N s + 1) :: X.drop k) (updL L s (some (N s + 1))) := hM.ins hL hlo2.out hhi.out
        replace hX' : Hid _ := hX'
        have q1 := cutH gX X.length cX k (by omega) W
        have hn1 := news_row hRW.rowX 0 k (by omega)
        rw [List.drop_zero] at hn1
        go_upto_region 11 with (at_builtin; refine wpList_append_own_at _ rfl _ _ 31 rfl W.heap.size 34 i34 (.agg #[.int .i64 0, .int .u64 0]) 2 16 Tryd.underlying31 hi34 hz0 hz1 hz2 rfl (by decide) (.slice none 0 0) 0 [] rfl (World.ownsRow_nil _ _ _ _) ⟨gX, 0, none⟩ k cX (hCells (X.take k)) rfl (by rw [hCells_len]; simp; omega) hn1 (hCells_one _) (by simp [maxLen]; omega) (by omega) (Nat.le_refl _) ?_; go_loud (intro v2 w2 hown2 hgrow2 hnil2 hloc2; rw [Nat.zero_add, List.nil_append] at hown2; obtain ⟨p2, c2, rfl⟩ : ∃ p cap, v2 = .slice p k cap := own_shape hown2))
        have hk2 : ∀ i, i < W.heap.size → w2.heap[i]? = W.heap[i]? := fun i hi => hgrow2.block i hi (by simp [Value.ownBlock])
        have hw2 : W.heap.size ≤ w2.heap.size := hgrow2.size
        have hz2' : w2.heap[z]? = some (.cells #[.int .i64 s, .int .u64 gn] 34 (0, 0)) := (hk2 z (heap_lt hz)).trans hz
        have x0 := cell_of hz2' 0
        have x1 := cell_of hz2' 1
        simp at x0 x1
        clear q1 hn1
        go_upto_region 12 with (at_builtin; refine wpList_append_own_at _ rfl _ _ 31 rfl W.heap.size 34 i34 (.agg #[.int .i64 0, .int .u64 0]) 2 16 Tryd.underlying31 hi34 hz0 hz1 hz2 rfl (by decide) (.slice p2 k c2) k (hCells (X.take k)) rfl (hown2.alloc _) _ 1 1 [.int .i64 s, .int .u64 gn] rfl rfl (news_new _ _ _ _ rfl) (by simp [Value.oneCell']) (by simp [maxLen]; omega) (by omega) (by simp; omega) ?_; go_loud (intro v3 w3 hown3 hgrow3 hnil3 hloc3; obtain ⟨p3, c3, rfl⟩ : ∃ p cap, v3 = .slice p (k + 1) cap := own_shape hown3))
        have hk3 : ∀ i, i < W.heap.size → w3.heap[i]? = W.heap[i]? := fun i hi => ((hgrow3.block i (by simp; omega) (fun e => by have := (hown2.lt i e.symm).1; omega)).trans (Below.heap_alloc _ _ _ (by omega))).trans (hk2 i hi)
        have hw3 : W.heap.size ≤ w3.heap.size := by have := hgrow3.size; simp at this; omega
        have c0' : w3.cell? ⟨r, 0, none⟩ = some (.slice (some ⟨gX, 0, none⟩) X.length cX) := by rw [cell_of ((hk3 r hrW).trans hRW.cells)]; rfl
        obtain ⟨ad, had, q2⟩ := cutL gX X.length cX k (by omega) hcX
        have q2' := q2 w3
        have hrX3 : w3.ownsRow B 34 2 (.slice (some ⟨gX, 0, none⟩) X.length cX) X.length (hCells X) := row_kept hRW.rowX fun g' hg' => hk3 _ (hRW.rowX.lt g' hg').2
        have hn2 : ∀ (j : Nat) (u : Value), (hCells (X.drop k))[j]? = some u → w3.cell? (ad.add j) = some u := by
          by_cases e : k < X.length
          · have := news_row hrX3 k (X.length - k) (by omega)
            rw [List.take_of_length_le (by simp)] at this
            rw [had e]
            exact this
          · intro j u hu
            rw [List.drop_of_length_le (by omega)] at hu
            simp [hCells] at hu
        clear q2 x0 x1
        go_upto_region 13 with (at_builtin; refine wpList_append_own_at _ rfl _ _ 31 rfl W.heap.size 34 i34 (.agg #[.int .i64 0, .int .u64 0]) 2 16 Tryd.underlying31 hi34 hz0 hz1 hz2 rfl (by decide) (.slice p3 (k + 1) c3) (k + 1) (hCells (X.take k) ++ [.int .i64 s, .int .u64 gn]) rfl hown3 ad (X.length - k) (cX - k) (hCells (X.drop k)) rfl (by rw [hCells_len]; simp) hn2 (hCells_one _) (by simp [maxLen]; omega) (by omega) hw3 ?_; go_loud (intro v4 w4 hown4 hgrow4 hnil4 hloc4; obtain ⟨p4, c4, rfl⟩ : ∃ p cap, v4 = .slice p (k + 1 + (X.length - k)) cap := own_shape hown4; have hr4 : w4.heap[r]? = some (.cells #[.slice (some ⟨gX, 0, none⟩) X.length cX, vT'] 54 (0, 0)) := (by rw [hgrow4.block r (by omega) (fun e => by have := (hown3.lt r e.symm).1; omega)]; exact (hk3 r hrW).trans hRW.cells); have c04 := cell_of hr4 0; have f04 := froz_of hr4 0; simp at c04))
        have hk4 : ∀ i, i < W.heap.size → w4.heap[i]? = W.heap[i]? := fun i hi => (hgrow4.block i (by omega) (fun e => by have := (hown3.lt i e.symm).1; omega)).trans (hk3 i hi)
        have hlen : (X.take k ++ (s, N s + 1) :: X.drop k).length = k + 1 + (X.length - k) := by simp; omega
        have hR := hRW.putX (W := w4) (X' := X.take k ++ (s, N s + 1) :: X.drop k) (vX' := .slice p4 (k + 1 + (X.length - k)) c4) hk4 (by
          rw [hlen, hCells_app]
          have := row_base hown4 (show B ≤ W.heap.size by omega)
          simp only [hCells]
          rw [show ((N s + 1 : Nat) : Int) = gn by rw [← hgn.out]; simp]
          rw [List.append_assoc] at this
          exact this) (fun g' hg' => (hown4.lt g' hg').1) (by omega)
        have hw4 : W.heap.size ≤ w4.heap.size := Nat.le_trans hw3 hgrow4.size
        have hbW4 : Below B w w4 := ⟨(hgrow4.os.trans (hgrow3.os.trans hgrow2.os)).trans hbW.os, (hgrow4.tape.trans (hgrow3.tape.trans hgrow2.tape)).trans hbW.tape, (hgrow4.output.trans (hgrow3.output.trans hgrow2.output)).trans hbW.output, Nat.le_trans hbW.size hw4, fun i hi => (hk4 i (by omega)).trans (hbW.block i hi)⟩
        have hNe : ∀ g', vT'.ownBlock = some g' → g' ≠ w.heap.size := fun g' hg' => by
          rcases hTn g' hg' with e | e
          · have := hTl g' e; omega
          · rw [hs0] at e; omega
        have hzr : z ≠ r := by omega
        have hz4r : w.heap.size ≠ r := by omega
        have hz5 : (w4.setCell ⟨r, 0, none⟩ (.slice p4 (k + 1 + (X.length - k)) c4)).heap[z]? = some (.cells #[.int .i64 s, .int .u64 gn] 34 (0, 0)) := (Below.heap_setCell _ _ _ _ hzr).trans ((hk4 z (heap_lt hz)).trans hz)
        have hy5 : (w4.setCell ⟨r, 0, none⟩ (.slice p4 (k + 1 + (X.length - k)) c4)).heap[w.heap.size]? = some (.cells #[.int .i64 0, .int .u64 0] 34 (0, 0)) := (Below.heap_setCell _ _ _ _ hz4r).trans ((hk4 _ (heap_lt hyW)).trans hyW)
        have hF5 : Fx B r (Value.slice (some ⟨gX, 0, none⟩) X.length cX) vT w (w4.setCell ⟨r, 0, none⟩ (.slice p4 (k + 1 + (X.length - k)) c4)) := ⟨hbW4.setCell hRW.rB _, fun i hi h1' h2' h3' => by
          rw [Below.heap_setCell _ _ _ _ (by simpa using h1'), hk4 i (by omega)]
          exact hkW i hi h1' h2' h3'⟩
        clear c04 f04 q2' c0'
        generalize w4.setCell ⟨r, 0, none⟩ (.slice p4 (k + 1 + (X.length - k)) c4) = W5 at hR hz5 hy5 hF5 ⊢
        have x0 := cell_of hz5 0
        have x1 := cell_of hz5 1
        have f0 := froz_of hy5 0
        have f1 := froz_of hy5 1
        have g0 := cell_of hy5 0
        have g1 := cell_of hy5 1
        simp at x0 x1 g0 g1
        obtain ⟨e0, e1, e2, e3⟩ := put2 hy5 (.int .i64 s) (.int .u64 gn)
        have hout : Hid (RMk w ((W5.setCell ⟨w.heap.size, 0, none⟩ (.int .i64 s)).setCell ⟨w.heap.size, 1, none⟩ (.int .u64 gn)) B r L N s T.length (Value.slice (some ⟨gX, 0, none⟩) X.length cX) vT) := by
          have hk5 : ∀ i, i ≠ w.heap.size → ((W5.setCell ⟨w.heap.size, 0, none⟩ (.int .i64 s)).setCell ⟨w.heap.size, 1, none⟩ (.int .u64 gn)).heap[i]? = W5.heap[i]? := fun i hi => by rw [Below.heap_setCell _ _ _ _ hi, Below.heap_setCell _ _ _ _ hi]
          refine ⟨_, _, _, _, ⟨(hk5 r (Ne.symm hz4r)).trans hR.cells, hR.rB, row_kept hR.rowX fun g' hg' => hk5 g' (by have := (hown4.lt g' hg').1; omega), row_kept hR.rowT fun g' hg' => hk5 g' (by rintro rfl; obtain ⟨cur, e'⟩ := row_cells hRW.rowT hg'; have := hNe w.heap.size hg'; omega), hR.apart, hR.lenX, hR.lenT⟩, hX'.out, hNT', hT'l, ⟨(hF5.bel.setCell (by simpa using hBw) _).setCell (by simpa using hBw) _, fun i hi h1' h2' h3' => (hk5 i (by omega)).trans (hF5.keep i hi h1' h2' h3')⟩, fun g' hg' => (by have := (hown4.lt g' hg').1; omega), fun g' hg' => (by rcases hTn g' hg' with e | e; exact .inl e; rw [hs0] at e; exact .inr (by omega))⟩
        go_wp2
        refine bodyPost_ret (by simp [results, Tryd.results35, go_sem, e0, e1, e2, e3]; try rfl) rfl ?_
        exact ⟨by rw [hgn.out], hout.out⟩
    · have d : decide ((k : Int) < X.length) = false := by simp; omega
      have hhi : ∀ y ∈ X.drop k, s < y.1 := fun y hy => by rw [List.drop_of_length_le (by omega)] at hy; cases hy
      have hlo2 : ∀ y ∈ X.take k, y.1 < s := fun y hy => by
        obtain ⟨j, hj⟩ := List.getElem?_of_mem hy
        rw [List.getElem?_take] at hj
        split at hj
        · rename_i hlt'; exact hlo j y hlt' hj
        · cases hj
      replace hlo : Hid _ := hlo
      replace hhi : Hid _ := hhi
      replace hlo2 : Hid _ := hlo2
      go_upto_region 10 with fail
      clear d
      have hX' : Mt (X.take k ++ (s, N s + 1) :: X.drop k) (updL L s (some (N s + 1))) := hM.ins hL hlo2.out hhi.out
      replace hX' : Hid _ := hX'
      have q1 := cutH gX X.length cX k (by omega) W
      have hn1 := news_row hRW.rowX 0 k (by omega)
      rw [List.drop_zero] at hn1
      go_upto_region 11 with (at_builtin; refine wpList_append_own_at _ rfl _ _ 31 rfl W.heap.size 34 i34 (.agg #[.int .i64 0, .int .u64 0]) 2 16 Tryd.underlying31 hi34 hz0 hz1 hz2 rfl (by decide) (.slice none 0 0) 0 [] rfl (World.ownsRow_nil _ _ _ _) ⟨gX, 0, none⟩ k cX (hCells (X.take k)) rfl (by rw [hCells_len]; simp; omega) hn1 (hCells_one _) (by simp [maxLen]; omega) (by omega) (Nat.le_refl _) ?_; go_loud (intro v2 w2 hown2 hgrow2 hnil2 hloc2; rw [Nat.zero_add, List.nil_append] at hown2; obtain ⟨p2, c2, rfl⟩ : ∃ p cap, v2 = .slice p k cap := own_shape hown2))
      have hk2 : ∀ i, i < W.heap.size → w2.heap[i]? = W.heap[i]? := fun i hi => hgrow2.block i hi (by simp [Value.ownBlock])
      have hw2 : W.heap.size ≤ w2.heap.size := hgrow2.size
      have hz2' : w2.heap[z]? = some (.cells #[.int .i64 s, .int .u64 gn] 34 (0, 0)) := (hk2 z (heap_lt hz)).trans hz
      have x0 := cell_of hz2' 0
      have x1 := cell_of hz2' 1
      simp at x0 x1
      clear q1 hn1
      go_upto_region 12 with (at_builtin; refine wpList_append_own_at _ rfl _ _ 31 rfl W.heap.size 34 i34 (.agg #[.int .i64 0, .int .u64 0]) 2 16 Tryd.underlying31 hi34 hz0 hz1 hz2 rfl (by decide) (.slice p2 k c2) k (hCells (X.take k)) rfl (hown2.alloc _) _ 1 1 [.int .i64 s, .int .u64 gn] rfl rfl (news_new _ _ _ _ rfl) (by simp [Value.oneCell']) (by simp [maxLen]; omega) (by omega) (by simp; omega) ?_; go_loud (intro v3 w3 hown3 hgrow3 hnil3 hloc3; obtain ⟨p3, c3, rfl⟩ : ∃ p cap, v3 = .slice p (k + 1) cap := own_shape hown3))
      have hk3 : ∀ i, i < W.heap.size → w3.heap[i]? = W.heap[i]? := fun i hi => ((hgrow3.block i (by simp; omega) (fun e => by have := (hown2.lt i e.symm).1; omega)).trans (Below.heap_alloc _ _ _ (by omega))).trans (hk2 i hi)
      have hw3 : W.heap.size ≤ w3.heap.size := by have := hgrow3.size; simp at this; omega
      have c0' : w3.cell? ⟨r, 0, none⟩ = some (.slice (some ⟨gX, 0, none⟩) X.length cX) := by rw [cell_of ((hk3 r hrW).trans hRW.cells)]; rfl
      obtain ⟨ad, had, q2⟩ := cutL gX X.length cX k (by omega) hcX
      have q2' := q2 w3
      have hrX3 : w3.ownsRow B 34 2 (.slice (some ⟨gX, 0, none⟩) X.length cX) X.length (hCells X) := row_kept hRW.rowX fun g' hg' => hk3 _ (hRW.rowX.lt g' hg').2
      have hn2 : ∀ (j : Nat) (u : Value), (hCells (X.drop k))[j]? = some u → w3.cell? (ad.add j) = some u := by
        by_cases e : k < X.length
        · have := news_row hrX3 k (X.length - k) (by omega)
          rw [List.take_of_length_le (by simp)] at this
          rw [had e]
          exact this
        · intro j u hu
          rw [List.drop_of_length_le (by omega)] at hu
          simp [hCells] at hu
      clear q2 x0 x1
      go_upto_region 13 with (at_builtin; refine wpList_append_own_at _ rfl _ _ 31 rfl W.heap.size 34 i34 (.agg #[.int .i64 0, .int .u64 0]) 2 16 Tryd.underlying31 hi34 hz0 hz1 hz2 rfl (by decide) (.slice p3 (k + 1) c3) (k + 1) (hCells (X.take k) ++ [.int .i64 s, .int .u64 gn]) rfl hown3 ad (X.length - k) (cX - k) (hCells (X.drop k)) rfl (by rw [hCells_len]; simp) hn2 (hCells_one _) (by simp [maxLen]; omega) (by omega) hw3 ?_; go_loud (intro v4 w4 hown4 hgrow4 hnil4 hloc4; obtain ⟨p4, c4, rfl⟩ : ∃ p cap, v4 = .slice p (k + 1 + (X.length - k)) cap := own_shape hown4; have hr4 : w4.heap[r]? = some (.cells #[.slice (some ⟨gX, 0, none⟩) X.length cX, vT'] 54 (0, 0)) := (by rw [hgrow4.block r (by omega) (fun e => by have := (hown3.lt r e.symm).1; omega)]; exact (hk3 r hrW).trans hRW.cells); have c04 := cell_of hr4 0; have f04 := froz_of hr4 0; simp at c04))
      have hk4 : ∀ i, i < W.heap.size → w4.heap[i]? = W.heap[i]? := fun i hi => (hgrow4.block i (by omega) (fun e => by have := (hown3.lt i e.symm).1; omega)).trans (hk3 i hi)
      have hlen : (X.take k ++ (s, N s + 1) :: X.drop k).length = k + 1 + (X.length - k) := by simp; omega
      have hR := hRW.putX (W := w4) (X' := X.take k ++ (s, N s + 1) :: X.drop k) (vX' := .slice p4 (k + 1 + (X.length - k)) c4) hk4 (by
        rw [hlen, hCells_app]
        have := row_base hown4 (show B ≤ W.heap.size by omega)
        simp only [hCells]
        rw [show ((N s + 1 : Nat) : Int) = gn by rw [← hgn.out]; simp]
        rw [List.append_assoc] at this
        exact this) (fun g' hg' => (hown4.lt g' hg').1) (by omega)
      have hw4 : W.heap.size ≤ w4.heap.size := Nat.le_trans hw3 hgrow4.size
      have hbW4 : Below B w w4 := ⟨(hgrow4.os.trans (hgrow3.os.trans hgrow2.os)).trans hbW.os, (hgrow4.tape.trans (hgrow3.tape.trans hgrow2.tape)).trans hbW.tape, (hgrow4.output.trans (hgrow3.output.trans hgrow2.output)).trans hbW.output, Nat.le_trans hbW.size hw4, fun i hi => (hk4 i (by omega)).trans (hbW.block i hi)⟩
      have hNe : ∀ g', vT'.ownBlock = some g' → g' ≠ w.heap.size := fun g' hg' => by
        rcases hTn g' hg' with e | e
        · have := hTl g' e; omega
        · rw [hs0] at e; omega
      have hzr : z ≠ r := by omega
      have hz4r : w.heap.size ≠ r := by omega
      have hz5 : (w4.setCell ⟨r, 0, none⟩ (.slice p4 (k + 1 + (X.length - k)) c4)).heap[z]? = some (.cells #[.int .i64 s, .int .u64 gn] 34 (0, 0)) := (Below.heap_setCell _ _ _ _ hzr).trans ((hk4 z (heap_lt hz)).trans hz)
      have hy5 : (w4.setCell ⟨r, 0, none⟩ (.slice p4 (k + 1 + (X.length - k)) c4)).heap[w.heap.size]? = some (.cells #[.int .i64 0, .int .u64 0] 34 (0, 0)) := (Below.heap_setCell _ _ _ _ hz4r).trans ((hk4 _ (heap_lt hyW)).trans hyW)
      have hF5 : Fx B r (Value.slice (some ⟨gX, 0, none⟩) X.length cX) vT w (w4.setCell ⟨r, 0, none⟩ (.slice p4 (k + 1 + (X.length - k)) c4)) := ⟨hbW4.setCell hRW.rB _, fun i hi h1' h2' h3' => by
        rw [Below.heap_setCell _ _ _ _ (by simpa using h1'), hk4 i (by omega)]
        exact hkW i hi h1' h2' h3'⟩
      clear c04 f04 q2' c0'
      generalize w4.setCell ⟨r, 0, none⟩ (.slice p4 (k + 1 + (X.length - k)) c4) = W5 at hR hz5 hy5 hF5 ⊢
      have x0 := cell_of hz5 0
      have x1 := cell_of hz5 1
      have f0 := froz_of hy5 0
      have f1 := froz_of hy5 1
      have g0 := cell_of hy5 0
      have g1 := cell_of hy5 1
      simp at x0 x1 g0 g1
      obtain ⟨e0, e1, e2, e3⟩ := put2 hy5 (.int .i64 s) (.int .u64 gn)
      have hout : Hid (RMk w ((W5.setCell ⟨w.heap.size, 0, none⟩ (.int .i64 s)).setCell ⟨w.heap.size, 1, none⟩ (.int .u64 gn)) B r L N s T.length (Value.slice (some ⟨gX, 0, none⟩) X.length cX) vT) := by
        have hk5 : ∀ i, i ≠ w.heap.size → ((W5.setCell ⟨w.heap.size, 0, none⟩ (.int .i64 s)).setCell ⟨w.heap.size, 1, none⟩ (.int .u64 gn)).heap[i]? = W5.heap[i]? := fun i hi => by rw [Below.heap_setCell _ _ _ _ hi, Below.heap_setCell _ _ _ _ hi]
        refine ⟨_, _, _, _, ⟨(hk5 r (Ne.symm hz4r)).trans hR.cells, hR.rB, row_kept hR.rowX fun g' hg' => hk5 g' (by have := (hown4.lt g' hg').1; omega), row_kept hR.rowT fun g' hg' => hk5 g' (by rintro rfl; obtain ⟨cur, e'⟩ := row_cells hRW.rowT hg'; have := hNe w.heap.size hg'; omega), hR.apart, hR.lenX, hR.lenT⟩, hX'.out, hNT', hT'l, ⟨(hF5.bel.setCell (by simpa using hBw) _).setCell (by simpa using hBw) _, fun i hi h1' h2' h3' => (hk5 i (by omega)).trans (hF5.keep i hi h1' h2' h3')⟩, fun g' hg' => (by have := (hown4.lt g' hg').1; omega), fun g' hg' => (by rcases hTn g' hg' with e | e; exact .inl e; rw [hs0] at e; exact .inr (by omega))⟩
      go_wp2
      refine bodyPost_ret (by simp [results, Tryd.results35, go_sem, e0, e1, e2, e3]; try rfl) rfl ?_
      exact ⟨by rw [hgn.out], hout.out⟩
end Go.Proofs.YtooblonafnlfcaaDoor.H
