/- Towards HandlePlays: the document's Make and Drop, whatever they are asked. -/
import Derived.Test.YtooblonafnlfcaaDoorRE
namespace Go.Proofs.YtooblonafnlfcaaDoor.H
open Go.ChangeShapes Go.WideShapes Go.ChangeAt Go.RowKit
set_option linter.unusedVariables false
set_option linter.unusedSimpArgs false
set_option maxRecDepth 20000
theorem drL_yes {L : Int → Option Nat} {s : Int} {g : Nat} (h : L s = some g) : drL L s g = updL L s none := by simp [drL, h]
theorem drL_no {L : Int → Option Nat} {s : Int} {g : Nat} (h : ¬ L s = some g) : drL L s g = L := by
  have : (L s == some g) = false := by simpa using h
  simp [drL, this, h]
theorem cutN (W : World) : (Instr.slice 31 (.slice none 0 0) none (some (.int .i64 0)) none).run Tryd.prog W = .ok (.slice none 0 0) W := by kernel_rfl
theorem cutN2 (W : World) : (Instr.slice 31 (.slice none 0 0) (some (.int .i64 0)) none none).run Tryd.prog W = .ok (.slice none 0 0) W := by kernel_rfl
set_option maxHeartbeats 4000000 in
theorem rmake_first (w : World) (B r : Nat) (T : List HKey) (vT : Value) (h : Rf w B r [] T (.slice none 0 0) vT) (L : Int → Option Nat) (hM : Mt [] L) (N : Int → Nat) (hN : Nt T N) (s : Int) (hs : 0 ≤ s) (hL : L s = none) (hl1 : T.length + 1 ≤ 1000) (hNs : N s ≤ 1000000) :
    Calls Tryd.prog 35 #[.pointer (some ⟨r, 0, none⟩), .int .i64 s] w fun e w' => e = .returned (.tuple #[.agg #[.int .i64 s, .int .u64 ((N s : Int) + 1)], .int .i64 0]) ∧ RMk w w' B r L N s T.length (.slice none 0 0) vT := by
  have hBw := h.size
  have hb0 := (Below.refl _ w).alloc (Nat.le_refl _) (.cells #[.int .i64 0, .int .u64 0] 34)
  have h0 := h.below hb0
  have hy0 := heap_alloc_new w (.cells #[.int .i64 0, .int .u64 0] 34)
  have k1 := at_no _ B r [] T _ vT h0 s (hM.no hL)
  have k2 := gen_any _ B r [] T _ vT h0 N hN s hl1 hNs
  obtain ⟨gn, hgn⟩ : ∃ gn : Int, (N s : Int) + 1 = gn := ⟨_, rfl⟩
  rw [hgn] at k2
  replace hgn : Hid _ := hgn
  obtain ⟨i34, hi34, hz0, hz1, hz2⟩ := info_parts info34
  have hTl : ∀ g, vT.ownBlock = some g → g < w.heap.size := fun g hg => (h.rowT.lt g hg).2
  go_enter Tryd.func35, Tryd.ntmps35
  go_upto_region 6 with (first | (go_at_call 60; refine k1.mono ?_; rintro e w' ⟨rfl, hw⟩; rw [hw]; clear hw) | (go_at_call 61; refine k2.mono ?_; rintro e w1 ⟨rfl, ⟨T', vT', hR1, hNT', hT'l, hTn⟩, hF1⟩))
  have hr0 := heap_lt h.cells
  have hs0 : (w.alloc (.cells #[.int .i64 0, .int .u64 0] 34)).heap.size = w.heap.size + 1 := by simp
  have hy1 : w1.heap[w.heap.size]? = some (.cells #[.int .i64 0, .int .u64 0] 34 (0, 0)) := (hF1.keep _ (by omega) (by omega) (fun e => by simp [Value.ownBlock] at e) (fun e => by have := hTl _ e.symm; omega)).trans hy0
  have hz := heap_alloc_new w1 (.cells #[.int .i64 s, .int .u64 gn] 34)
  have hRW := hR1.alloc (.cells #[.int .i64 s, .int .u64 gn] 34)
  have hyW := heap_al hy1 (.cells #[.int .i64 s, .int .u64 gn] 34)
  have hs1 : w.heap.size + 1 ≤ w1.heap.size := by have := hF1.bel.size; omega
  have hbW : Below B w (w1.alloc (.cells #[.int .i64 s, .int .u64 gn] 34)) := ((hb0.mono hBw).trans hF1.bel).alloc hR1.size _
  have hkW : ∀ i, i < w.heap.size → i ≠ r → some i ≠ (Value.slice none 0 0).ownBlock → some i ≠ vT.ownBlock → (w1.alloc (.cells #[.int .i64 s, .int .u64 gn] 34)).heap[i]? = w.heap[i]? := fun i hi h1' h2' h3' => ((Below.heap_alloc _ _ _ (by omega)).trans (hF1.keep i (by omega) h1' h2' h3')).trans (hb0.block i hi)
  have hsW : w1.heap.size < (w1.alloc (.cells #[.int .i64 s, .int .u64 gn] 34)).heap.size := by simp
  clear k1 k2 hR1 hF1 h0 hy0 hb0
  generalize w1.alloc (.cells #[.int .i64 s, .int .u64 gn] 34) = W at hz hRW hyW hbW hkW hsW ⊢
  generalize w1.heap.size = z at hz hs1 hsW ⊢
  have hrW := heap_lt hRW.cells
  have c0 : W.cell? ⟨r, 0, none⟩ = some (.slice none 0 0) := by rw [cell_of hRW.cells]; rfl
  have x0 := cell_of hz 0
  have x1 := cell_of hz 1
  simp at x0 x1
  have q1 := cutN W
  go_wp2
  refine wp_loop_rounds 2 ?_
  rw [rounds_succ]
  go_upto_region 11 with (at_builtin; refine wpList_append_own_none rfl _ _ 31 rfl W.heap.size 34 i34 2 Tryd.underlying31 hi34 (.slice none 0 0) 0 [] rfl (World.ownsRow_nil _ _ _ _) rfl ?_)
  go_upto_region 12 with (at_builtin; refine wpList_append_own_at _ rfl _ _ 31 rfl W.heap.size 34 i34 (.agg #[.int .i64 0, .int .u64 0]) 2 16 Tryd.underlying31 hi34 hz0 hz1 hz2 rfl (by decide) (.slice none 0 0) 0 [] rfl (World.ownsRow_nil _ _ _ _) _ 1 1 [.int .i64 s, .int .u64 gn] rfl rfl (news_new _ _ _ _ rfl) (by simp [Value.oneCell']) (by simp [maxLen]) (by omega) (by simp) ?_; go_loud (intro v3 w3 hown3 hgrow3 hnil3 hloc3; rw [Nat.zero_add, List.nil_append] at hown3; obtain ⟨p3, c3, rfl⟩ : ∃ p cap, v3 = .slice p 1 cap := own_shape hown3))
  have hk3 : ∀ i, i < W.heap.size → w3.heap[i]? = W.heap[i]? := fun i hi => (hgrow3.block i (by simp; omega) (by simp [Value.ownBlock])).trans (Below.heap_alloc _ _ _ hi)
  have hw3 : W.heap.size ≤ w3.heap.size := by have := hgrow3.size; simp at this; omega
  have hr3 : w3.heap[r]? = some (.cells #[.slice none 0 0, vT'] 54 (0, 0)) := (hk3 r hrW).trans hRW.cells
  have c03 := cell_of hr3 0
  have f03 := froz_of hr3 0
  simp at c03
  have q2 := cutN2 w3
  clear x0 x1 q1 c0
  go_upto_region 13 with (at_builtin; refine wpList_append_own_none rfl _ _ 31 rfl W.heap.size 34 i34 2 Tryd.underlying31 hi34 (.slice p3 1 c3) 1 [.int .i64 s, .int .u64 gn] rfl hown3 rfl ?_)
  have hX' : Mt [(s, N s + 1)] (updL L s (some (N s + 1))) := by
    have := hM.ins (k := 0) (g := N s + 1) hL (by simp) (by simp)
    simpa using this
  have hR := hRW.putX (W := w3) (X' := [(s, N s + 1)]) (vX' := .slice p3 1 c3) hk3 (by
    have := row_base hown3 (show B ≤ W.heap.size by omega)
    simp only [hCells, List.length_singleton]
    rw [show ((N s + 1 : Nat) : Int) = gn by rw [← hgn.out]; simp]
    exact this) (fun g' hg' => (hown3.lt g' hg').1) (by simp)
  have hbW4 : Below B w w3 := ⟨hgrow3.os.trans hbW.os, hgrow3.tape.trans hbW.tape, hgrow3.output.trans hbW.output, Nat.le_trans hbW.size hw3, fun i hi => (hk3 i (by omega)).trans (hbW.block i hi)⟩
  have hNe : ∀ g', vT'.ownBlock = some g' → g' ≠ w.heap.size := fun g' hg' => by
    rcases hTn g' hg' with e | e
    · have := hTl g' e; omega
    · rw [hs0] at e; omega
  have hzr : z ≠ r := by omega
  have hz4r : w.heap.size ≠ r := by omega
  have hz5 : (w3.setCell ⟨r, 0, none⟩ (.slice p3 1 c3)).heap[z]? = some (.cells #[.int .i64 s, .int .u64 gn] 34 (0, 0)) := (Below.heap_setCell _ _ _ _ hzr).trans ((hk3 z (heap_lt hz)).trans hz)
  have hy5 : (w3.setCell ⟨r, 0, none⟩ (.slice p3 1 c3)).heap[w.heap.size]? = some (.cells #[.int .i64 0, .int .u64 0] 34 (0, 0)) := (Below.heap_setCell _ _ _ _ hz4r).trans ((hk3 _ (heap_lt hyW)).trans hyW)
  have hF5 : Fx B r (.slice none 0 0) vT w (w3.setCell ⟨r, 0, none⟩ (.slice p3 1 c3)) := ⟨hbW4.setCell hRW.rB _, fun i hi h1' h2' h3' => by
    rw [Below.heap_setCell _ _ _ _ (by simpa using h1'), hk3 i (by omega)]
    exact hkW i hi h1' h2' h3'⟩
  clear c03 f03 q2
  generalize w3.setCell ⟨r, 0, none⟩ (.slice p3 1 c3) = W5 at hR hz5 hy5 hF5 ⊢
  have x0 := cell_of hz5 0
  have x1 := cell_of hz5 1
  have f0 := froz_of hy5 0
  have f1 := froz_of hy5 1
  have g0 := cell_of hy5 0
  have g1 := cell_of hy5 1
  simp at x0 x1 g0 g1
  obtain ⟨e0, e1, e2, e3⟩ := put2 hy5 (.int .i64 s) (.int .u64 gn)
  have hout : Hid (RMk w ((W5.setCell ⟨w.heap.size, 0, none⟩ (.int .i64 s)).setCell ⟨w.heap.size, 1, none⟩ (.int .u64 gn)) B r L N s T.length (.slice none 0 0) vT) := by
    have hk5 : ∀ i, i ≠ w.heap.size → ((W5.setCell ⟨w.heap.size, 0, none⟩ (.int .i64 s)).setCell ⟨w.heap.size, 1, none⟩ (.int .u64 gn)).heap[i]? = W5.heap[i]? := fun i hi => by rw [Below.heap_setCell _ _ _ _ hi, Below.heap_setCell _ _ _ _ hi]
    refine ⟨_, _, _, _, ⟨(hk5 r (Ne.symm hz4r)).trans hR.cells, hR.rB, row_kept hR.rowX fun g' hg' => hk5 g' (by have := (hown3.lt g' hg').1; omega), row_kept hR.rowT fun g' hg' => hk5 g' (hNe g' hg'), hR.apart, hR.lenX, hR.lenT⟩, hX', hNT', hT'l, ⟨(hF5.bel.setCell (by simpa using hBw) _).setCell (by simpa using hBw) _, fun i hi h1' h2' h3' => (hk5 i (by omega)).trans (hF5.keep i hi h1' h2' h3')⟩, fun g' hg' => (by have := (hown3.lt g' hg').1; omega), fun g' hg' => (by rcases hTn g' hg' with e | e; exact .inl e; rw [hs0] at e; exact .inr (by omega))⟩
  go_wp2
  refine bodyPost_ret (by simp [results, Tryd.results35, go_sem, e0, e1, e2, e3]; try rfl) rfl ?_
  exact ⟨by rw [hgn.out], hout.out⟩
/-- Both tables: what the document's one knows is what the table knows. -/
structure Bo (w : World) (B r : Nat) (N : Int → Nat) (L : Int → Option Nat) (X : List HKey) (vX vT : Value) (n : Nat) : Prop where
  ex : ∃ T, Rf w B r X T vX vT ∧ Nt T N ∧ T.length ≤ n
  mt : Mt X L
theorem rmake_any (w : World) (B r : Nat) (N : Int → Nat) (L : Int → Option Nat) (X : List HKey) (vX vT : Value) (n : Nat) (h : Bo w B r N L X vX vT n) (s : Int) (hn : n + 1 ≤ 1000) (hX : X.length + 1 ≤ 1000) (hNs : N s ≤ 1000000) :
    Calls Tryd.prog 35 #[.pointer (some ⟨r, 0, none⟩), .int .i64 s] w fun e w' => e = .returned (.tuple #[.agg #[.int .i64 (mkS L s), .int .u64 (mkG N L s)], .int .i64 (mkE L s)]) ∧ (∃ X' vX' vT', Bo w' B r (mkN N L s) (mkL N L s) X' vX' vT' (n + 1) ∧ (∀ g, vX'.ownBlock = some g → vX.ownBlock = some g ∨ w.heap.size ≤ g) ∧ ∀ g, vT'.ownBlock = some g → vT.ownBlock = some g ∨ w.heap.size ≤ g) ∧ Fx B r vX vT w w' := by
  obtain ⟨T, hR, hN, hT⟩ := h.ex
  by_cases h0 : s < 0
  · have e : mkE L s = 2 := by simp [mkE, h0]
    refine (rmake_arg w B r s h0).mono fun e' w' ⟨h1, h2⟩ => ?_
    simp only [mkS, mkG, mkN, mkL, e]
    exact ⟨h1, ⟨X, vX, vT, ⟨⟨T, hR.below h2, hN, by omega⟩, h.mt⟩, fun _ e => .inl e, fun _ e => .inl e⟩, Fx.of h2 hR.size⟩
  · cases hL : L s with
    | some g =>
      have e : mkE L s = 7 := by simp [mkE, h0, hL]
      refine (rmake_there w B r X T vX vT hR L h.mt s (by omega) g hL).mono fun e' w' ⟨h1, h2⟩ => ?_
      simp only [mkS, mkG, mkN, mkL, e]
      exact ⟨h1, ⟨X, vX, vT, ⟨⟨T, hR.below h2, hN, by omega⟩, h.mt⟩, fun _ e => .inl e, fun _ e => .inl e⟩, Fx.of h2 hR.size⟩
    | none =>
      have e : mkE L s = 0 := by simp [mkE, h0, hL]
      have key : Calls Tryd.prog 35 #[.pointer (some ⟨r, 0, none⟩), .int .i64 s] w fun e w' => e = .returned (.tuple #[.agg #[.int .i64 s, .int .u64 ((N s : Int) + 1)], .int .i64 0]) ∧ RMk w w' B r L N s T.length vX vT := by
        rcases hR.rowX.2 with ⟨e1, e2⟩ | ⟨g, cap, cur, e1, _⟩
        · have : X = [] := List.eq_nil_of_length_eq_zero e2
          subst this e1
          exact rmake_first w B r T vT hR L h.mt N hN s (by omega) hL (by omega) hNs
        · exact rmake_ok w B r X T vX vT hR L h.mt N hN s (by omega) hL (by omega) hX hNs ⟨g, by rw [e1]; rfl⟩
      refine key.mono fun e' w' ⟨h1, X2, T2, vX2, vT2, a1, a2, a3, a4, a5, a6, a7⟩ => ?_
      simp only [mkS, mkG, mkN, mkL, e, if_true]
      refine ⟨by rw [h1]; simp, ⟨X2, vX2, vT2, ⟨⟨T2, a1, a3, by omega⟩, a2⟩, fun g e => .inr (a6 g e), a7⟩, a5⟩
theorem rdrop_any (w : World) (B r : Nat) (N : Int → Nat) (L : Int → Option Nat) (X : List HKey) (vX vT : Value) (n : Nat) (h : Bo w B r N L X vX vT n) (s : Int) (g : Nat) :
    Calls Tryd.prog 62 #[.pointer (some ⟨r, 0, none⟩), .agg #[.int .i64 s, .int .u64 g]] w fun e w' => e = .returned (.int .i64 (drE L s g)) ∧ (∃ X' vX' vT', Bo w' B r N (drL L s g) X' vX' vT' n ∧ (∀ g, vX'.ownBlock = some g → vX.ownBlock = some g ∨ w.heap.size ≤ g) ∧ ∀ g, vT'.ownBlock = some g → vT.ownBlock = some g ∨ w.heap.size ≤ g) ∧ Fx B r vX vT w w' := by
  obtain ⟨T, hR, hN, hT⟩ := h.ex
  by_cases hL : L s = some g
  · obtain ⟨k, hk, hd⟩ := h.mt.yes hL
    rw [drL_yes hL, show drE L s g = 0 by simp [drE, hL]]
    refine (rdrop_ok w B r X T vX vT hR L h.mt s g hL k hk hd).mono fun e' w' ⟨h1, ⟨vX', h2, h4⟩, h3⟩ => ⟨h1, ⟨_, vX', vT, ⟨⟨T, h2, hN, hT⟩, h.mt.era hk hL⟩, fun g e => .inr (h4 g e), fun _ e => .inl e⟩, h3⟩
  · rw [drL_no hL, show drE L s g = 130 by simp [drE, hL]]
    have k1 := rlives_any _ B r X T vX vT (hR.alloc (.cells #[.int .i64 s, .int .u64 g] 34)) L h.mt s g
    rw [show (L s == some g) = false by simpa using hL] at k1
    go_enter Tryd.func62, Tryd.ntmps62
    go_wp2_with (go_at_call 72; refine k1.mono ?_; rintro e w1 ⟨rfl, hb2⟩)
    all_goals go_returns
    have hbw : Below w.heap.size w w1 := ((Below.refl _ w).alloc (Nat.le_refl _) _).trans (hb2.mono (by simp))
    exact ⟨rfl, ⟨X, vX, vT, ⟨⟨T, hR.below hbw, hN, hT⟩, h.mt⟩, fun _ e => .inl e, fun _ e => .inl e⟩, Fx.of hbw hR.size⟩
end Go.Proofs.YtooblonafnlfcaaDoor.H
