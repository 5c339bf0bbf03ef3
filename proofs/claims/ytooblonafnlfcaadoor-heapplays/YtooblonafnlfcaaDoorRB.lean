/- Towards HandlePlays: the document's Lives, gen. -/
import Derived.Test.YtooblonafnlfcaaDoorRA
namespace Go.Proofs.YtooblonafnlfcaaDoor.H
open Go.ChangeShapes Go.WideShapes Go.ChangeAt Go.RowKit
set_option linter.unusedVariables false
set_option linter.unusedSimpArgs false
set_option maxRecDepth 20000
theorem Below.drewN {B : Nat} {a w : World} (h : Below B a w) (k : Nat) : Below B a (w.drewN k) := ⟨h.os, h.tape, h.output, h.size, h.block⟩
/-- Those that live, as the document keeps them, and as the table has them. -/
structure Mt (X : List HKey) (L : Int → Option Nat) : Prop where
  mem : ∀ s g, (s, g) ∈ X ↔ L s = some g
  up : X.Pairwise (fun a b => a.1 < b.1)
theorem Mt.no {X : List HKey} {L : Int → Option Nat} (h : Mt X L) {s : Int} (hL : L s = none) : ∀ x ∈ X, x.1 ≠ s := by
  rintro ⟨a, g⟩ hx rfl
  have := (h.mem a g).1 hx
  simp only at hL
  rw [hL] at this
  cases this
theorem up_at {X : List HKey} (h : X.Pairwise (fun a b => a.1 < b.1)) {i j : Nat} {a b : HKey} (ha : X[i]? = some a) (hb : X[j]? = some b) (hij : i < j) : a.1 < b.1 := by
  obtain ⟨hi, rfl⟩ := List.getElem?_eq_some_iff.1 ha
  obtain ⟨hj, rfl⟩ := List.getElem?_eq_some_iff.1 hb
  exact List.pairwise_iff_getElem.1 h i j hi hj hij
theorem Mt.yes {X : List HKey} {L : Int → Option Nat} (h : Mt X L) {s : Int} {g : Nat} (hL : L s = some g) : ∃ k : Nat, X[k]? = some (s, g) ∧ ∀ (j : Nat) (x : HKey), j < k → X[j]? = some x → x.1 ≠ s := by
  obtain ⟨k, hk⟩ := List.getElem?_of_mem ((h.mem s g).2 hL)
  exact ⟨k, hk, fun j x hj hx e => by have := up_at h.up hx hk hj; simp only at this; omega⟩
set_option maxHeartbeats 1000000 in
theorem rlives_any (w : World) (B r : Nat) (X T : List HKey) (vX vT : Value) (h : Rf w B r X T vX vT) (L : Int → Option Nat) (hM : Mt X L) (s : Int) (g : Nat) :
    Calls Tryd.prog 72 #[.pointer (some ⟨r, 0, none⟩), .agg #[.int .i64 s, .int .u64 g]] w fun e w' => e = .returned (.bool (L s == some g)) ∧ Below w.heap.size w w' := by
  have hb1 := (Below.refl _ w).alloc (Nat.le_refl _) (.cells #[.int .i64 s, .int .u64 g] 34)
  have h1 := h.below hb1
  have hy := heap_alloc_new w (.cells #[.int .i64 s, .int .u64 g] 34)
  cases hL : L s with
  | none =>
    have k1 := at_no _ B r X T vX vT h1 s (hM.no hL)
    go_enter Tryd.func72, Tryd.ntmps72
    go_upto_region 2 with (go_at_call 60; refine k1.mono ?_; rintro e w' ⟨rfl, hw⟩; rw [hw]; clear hw)
    clear k1
    generalize w.alloc (.cells #[.int .i64 s, .int .u64 g] 34) = W at hb1 h1 hy ⊢
    go_quiet (fail)
    go_wp2
    all_goals go_returns
    all_goals exact ⟨rfl, Below.drewN hb1 _⟩
  | some g' =>
    obtain ⟨k, hk, hd⟩ := hM.yes hL
    have k1 := at_yes _ B r X T vX vT h1 s k g' hk hd
    have hkl := (List.getElem?_eq_some_iff.1 hk).1
    have hlX := h.lenX
    go_enter Tryd.func72, Tryd.ntmps72
    go_upto_region 2 with (go_at_call 60; refine k1.mono ?_; rintro e w' ⟨rfl, hw⟩; rw [hw]; clear hw)
    clear k1
    generalize w.alloc (.cells #[.int .i64 s, .int .u64 g] 34) = W at hb1 h1 hy ⊢
    obtain ⟨p, c, rfl⟩ := own_shape h1.rowX
    obtain ⟨gb, x, hx, hgl, hgo, hc0, hc1, hai⟩ := idx34 h1.rowX hkl (by omega)
    rw [hk] at hx
    obtain rfl := Option.some.inj hx
    simp only at hc0 hc1
    have c0 : W.cell? ⟨r, 0, none⟩ = some (.slice p X.length c) := by rw [cell_of h1.cells]; rfl
    have y0 := cell_of hy 0
    have y1 := cell_of hy 1
    simp at y0 y1
    have q1 := fun W' => eqlH s s g' g W'
    have dk : decide ((0 : Int) ≤ (k : Int)) = true := by simp
    clear h hM hL hd
    go_quiet (fail)
    go_wp2
    all_goals go_returns
    all_goals exact ⟨(show Ending.returned (.bool ((g' : Int) == (g : Int))) = .returned (.bool (some g' == some g)) by rw [beqN]), Below.drewN hb1 _⟩
/-- What a call of the document's table leaves. -/
structure Fx (B r : Nat) (vX vT : Value) (w w' : World) : Prop where
  bel : Below B w w'
  keep : ∀ k, k < w.heap.size → k ≠ r → some k ≠ vX.ownBlock → some k ≠ vT.ownBlock → w'.heap[k]? = w.heap[k]?
theorem Fx.of {B r : Nat} {vX vT : Value} {w w' : World} (h : Below w.heap.size w w') (hB : B ≤ w.heap.size) : Fx B r vX vT w w' := ⟨h.mono hB, fun k hk _ _ _ => h.block k hk⟩
/-- How many each slot had. -/
structure Nt (T : List HKey) (N : Int → Nat) : Prop where
  ins : ∀ x ∈ T, N x.1 = x.2
  out : ∀ s, (∀ x ∈ T, x.1 ≠ s) → N s = 0
  nd : (T.map (·.1)).Nodup
theorem row_set {w : World} {B t sz n g i : Nat} {v u : Value} {xs : List Value} (h : w.ownsRow B t sz v n xs) (hg : v.ownBlock = some g) : (w.setCell ⟨g, i, none⟩ u).ownsRow B t sz v n (xs.set i u) := by
  rcases h.2 with ⟨e, _⟩ | ⟨g', cap, cur, e, h1, h2, h3, h4, h5, h6⟩
  · subst e; cases hg
  · subst e
    simp only [Value.ownBlock, Option.some.injEq] at hg
    subst hg
    refine ⟨by simpa using h.1, .inr ⟨g', cap, cur.setIfInBounds i u, rfl, h1, by simpa using heap_setCell_same w g' i _ _ u h2, h3, h4, by simpa using h5, ?_⟩⟩
    rw [Array.toList_setIfInBounds, ← h6, List.take_set]
theorem row_other {w : World} {B t sz n g i : Nat} {v u : Value} {xs : List Value} (h : w.ownsRow B t sz v n xs) (hg : v.ownBlock ≠ some g) : (w.setCell ⟨g, i, none⟩ u).ownsRow B t sz v n xs :=
  row_kept h fun g' hg' => Below.heap_setCell _ _ _ _ (by rintro rfl; exact hg hg')
theorem hCells_set : ∀ (l : List HKey) (j : Nat) (s : Int) (g : Nat), ((hCells l).set (j * 2) (.int .i64 s)).set (j * 2 + 1) (.int .u64 g) = hCells (l.set j (s, g))
  | [], j, s, g => by simp [hCells]
  | (a, b) :: l, 0, s, g => by simp [hCells]
  | (a, b) :: l, j + 1, s, g => by
    rw [show (j + 1) * 2 = j * 2 + 1 + 1 by omega]
    simp only [hCells, List.set_cons_succ]
    rw [hCells_set l j s g]
theorem Rf.nb {w : World} {B r : Nat} {X T : List HKey} {vX vT : Value} (h : Rf w B r X T vX vT) : vX.ownBlock ≠ some r ∧ vT.ownBlock ≠ some r := by
  refine ⟨fun e => ?_, fun e => ?_⟩
  · obtain ⟨c, e'⟩ := row_cells h.rowX e; rw [h.cells] at e'; cases e'
  · obtain ⟨c, e'⟩ := row_cells h.rowT e; rw [h.cells] at e'; cases e'
set_option maxHeartbeats 2000000 in
theorem gen_yes (w : World) (B r : Nat) (X T : List HKey) (vX vT : Value) (h : Rf w B r X T vX vT) (s : Int) (k g0 : Nat) (hk : T[k]? = some (s, g0)) (hd : ∀ (j : Nat) (x : HKey), j < k → T[j]? = some x → x.1 ≠ s) (hg0 : g0 ≤ 1000000) :
    Calls Tryd.prog 61 #[.pointer (some ⟨r, 0, none⟩), .int .i64 s] w fun e w' => e = .returned (.int .u64 ((g0 : Int) + 1)) ∧ Rf w' B r X (T.set k (s, g0 + 1)) vX vT ∧ Fx B r vX vT w w' := by
  have hl := h.lenT
  have hkl := (List.getElem?_eq_some_iff.1 hk).1
  obtain ⟨p, c, rfl⟩ := own_shape h.rowT
  have c1 : w.cell? ⟨r, 1, none⟩ = some (.slice p T.length c) := by rw [cell_of h.cells]; rfl
  replace hd : Hid _ := hd
  replace hk : Hid _ := hk
  go_enter Tryd.func61, Tryd.ntmps61
  go_wp2
  go_loopw [5] (fun n5 wr => ∃ j : Nat, n5 = .int .i64 j ∧ j ≤ k ∧ wr = w) (fun n5 _ => T.length - (valOf n5).toNat)
  case atStart => exact ⟨0, rfl, by omega, rfl⟩
  case round =>
    obtain ⟨j, rfl, hj, hw⟩ := hrel
    rw [hw]; clear hw
    have hin : j < T.length := by omega
    have d : decide ((j : Int) < T.length) = true := by simp; omega
    have e9 : IntKind.i64.wrap ((j : Int) + 1) = (j : Int) + 1 := IntWalk.i64_in _ (by omega)
    obtain ⟨g, x, hx, hgl, hgo, hc0, hc1, hai⟩ := idx34 h.rowT hin (by omega)
    by_cases hjk : j = k
    · have hx2 := hk.out
      rw [← hjk, hx] at hx2
      obtain rfl := Option.some.inj hx2
      simp only at hc0 hc1
      have q : (s == s) = true := by simp
      have e8 : IntKind.u64.wrap ((g0 : Int) + 1) = (g0 : Int) + 1 := IntWalk.u64_in _ (by omega)
      replace hjk : Hid _ := hjk
      go_upto_region 7 with fail
      have hb1 := (Below.refl _ w).alloc (Nat.le_refl _) (.cells #[.int .i64 s, .int .u64 ((g0 : Int) + 1)] 34)
      have h1 := h.below hb1
      have hy := heap_alloc_new w (.cells #[.int .i64 s, .int .u64 ((g0 : Int) + 1)] 34)
      have r0 := (hb1.cell (p := ⟨g, j * 2, none⟩) hgl).trans hc0
      have r1 := (hb1.cell (p := ⟨g, j * 2 + 1, none⟩) hgl).trans hc1
      have hgs : g < w.heap.size := hgl
      clear hc0 hc1 c1
      generalize w.alloc (.cells #[.int .i64 s, .int .u64 ((g0 : Int) + 1)] 34) = W at hb1 h1 hy r0 r1 ⊢
      generalize hzq : w.heap.size = zq at hy hgs hb1 ⊢
      have y0 := cell_of hy 0
      have y1 := cell_of hy 1
      simp at y0 y1
      have c1 : W.cell? ⟨r, 1, none⟩ = some (.slice p T.length c) := by rw [cell_of h1.cells]; rfl
      obtain ⟨cur, hcur⟩ := row_cells h1.rowT hgo
      have fr0 := froz_of hcur (j * 2)
      have fr1 := froz_of hcur (j * 2 + 1)
      go_region
      have hzg : zq ≠ g := by omega
      have z1 : ((W.setCell ⟨g, j * 2, none⟩ (.int .i64 s)).setCell ⟨g, j * 2 + 1, none⟩ (.int .u64 ((g0 : Int) + 1))).cell? ⟨zq, 1, none⟩ = some (.int .u64 ((g0 : Int) + 1)) := by
        have e : ((W.setCell ⟨g, j * 2, none⟩ (.int .i64 s)).setCell ⟨g, j * 2 + 1, none⟩ (.int .u64 ((g0 : Int) + 1))).heap[zq]? = some (.cells #[.int .i64 s, .int .u64 ((g0 : Int) + 1)] 34 (0, 0)) := by
          rw [Below.heap_setCell _ _ _ _ hzg, Below.heap_setCell _ _ _ _ hzg]; exact hy
        rw [cell_of e]; rfl
      have hR : Rf ((W.setCell ⟨g, j * 2, none⟩ (.int .i64 s)).setCell ⟨g, j * 2 + 1, none⟩ (.int .u64 ((g0 : Int) + 1))) B r X (T.set k (s, g0 + 1)) vX (.slice p T.length c) := by
        have hnb := h1.nb
        have hrg : r ≠ g := by rintro rfl; exact hnb.2 hgo
        have hXg : vX.ownBlock ≠ some g := fun e => h1.apart g e hgo
        refine ⟨?_, h1.rB, row_other (row_other h1.rowX hXg) hXg, ?_, h1.apart, h1.lenX, by simpa using h1.lenT⟩
        · rw [Below.heap_setCell _ _ _ _ hrg, Below.heap_setCell _ _ _ _ hrg]; exact h1.cells
        · have := row_set (i := j * 2 + 1) (u := .int .u64 ((g0 : Int) + 1)) (row_set (i := j * 2) (u := .int .i64 s) h1.rowT hgo) hgo
          have e := hCells_set T j s (g0 + 1)
          rw [show ((g0 + 1 : Nat) : Int) = (g0 : Int) + 1 by simp] at e
          rw [e] at this
          rw [List.length_set, ← hjk.out]
          exact this
      have hF : Fx B r vX (.slice p T.length c) w ((W.setCell ⟨g, j * 2, none⟩ (.int .i64 s)).setCell ⟨g, j * 2 + 1, none⟩ (.int .u64 ((g0 : Int) + 1))) := by
        have hB : B ≤ w.heap.size := h.size
        have hgB : B ≤ g := (h1.rowT.lt g hgo).1
        rw [← hzq] at hb1
        exact ⟨((hb1.mono hB).setCell hgB _).setCell hgB _, fun k' hk' h1' h2' h3' => by
          have hne : k' ≠ g := by rintro rfl; exact h3' hgo.symm
          rw [Below.heap_setCell _ _ _ _ hne, Below.heap_setCell _ _ _ _ hne]
          exact hb1.block _ hk'⟩
      clear r0 r1 y0 y1 c1 fr0 fr1
      generalize (W.setCell ⟨g, j * 2, none⟩ (.int .i64 s)).setCell ⟨g, j * 2 + 1, none⟩ (.int .u64 ((g0 : Int) + 1)) = W2 at z1 hR hF ⊢
      go_wp2
      all_goals go_returns
      all_goals exact ⟨rfl, hR.drew, ⟨hF.bel.drew, hF.keep⟩⟩
    · have hne := hd.out j x (by omega) hx
      obtain ⟨xs, xg⟩ := x
      simp only at hc0 hc1 hne
      have q : (xs == s) = false := by simp [hne]
      go_wp2
      exact ⟨⟨j + 1, by simp, by omega, by trivial⟩, by simp [valOf]; omega⟩
end Go.Proofs.YtooblonafnlfcaaDoor.H
