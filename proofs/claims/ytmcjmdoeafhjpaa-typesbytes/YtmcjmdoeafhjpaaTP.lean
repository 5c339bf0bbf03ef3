/- Towards the statements of package types (layer 10): a field is read. -/
import Derived.Test.YtmcjmdoeafhjpaaTO
namespace Go.Proofs.Ytmcjmdoeafhjpaa
open Go.ChangeShapes Go.WideShapes Go.ChangeAt
open Go.RowKit Go.Shelf
set_option linter.unusedVariables false
set_option linter.unusedSimpArgs false
set_option maxRecDepth 20000

def fldD (st : St) : Fd × St :=
  (⟨⟨(txtD st).1.toArray⟩, (numM (txtD st).2).1, (numM (numM (txtD st).2).2).1, (numM (numM (numM (txtD st).2).2).2).1, (numM (numM (numM (numM (txtD st).2).2).2).2).1⟩, (numM (numM (numM (numM (txtD st).2).2).2).2).2)
/-- Where the functions that read stand. -/
structure Env (R N T : Nat) (w : World) : Prop where
  hN : w.heap[N]? = some (.cells #[.func (.func 65) #[] #[.pointer (some ⟨R + 4, 0, none⟩)]] 71 (0, 0))
  hT : w.heap[T]? = some (.cells #[.func (.func 67) #[] #[.pointer (some ⟨R + 4, 0, none⟩), .pointer (some ⟨R + 1, 0, none⟩)]] 69 (0, 0))
  n : R + 4 < N
  t : R + 4 < T
theorem Env.rw {R N T : Nat} {w w' : World} (h : Env R N T w) (k : RW R w w') : Env R N T w' := ⟨k.heap h.hN (.inl (by have := h.n; omega)), k.heap h.hT (.inl (by have := h.t; omega)), h.n, h.t⟩
theorem Env.gr {R N T : Nat} {w w' : World} (h : Env R N T w) (k : Bl w w') : Env R N T w' := ⟨it_keep (w := w) h.hN k, it_keep (w := w) h.hT k, h.n, h.t⟩
theorem Env.lt {R N T : Nat} {w : World} (h : Env R N T w) : N < w.heap.size ∧ T < w.heap.size := ⟨ch_lt h.hN, ch_lt h.hT⟩
theorem setc_heap {w : World} {k j : Nat} {cs : Array Value} {t : TypeId} (u : Value) (h : w.heap[k]? = some (.cells cs t (0, 0))) : (w.setCell ⟨k, j, none⟩ u).heap[k]? = some (.cells (cs.setIfInBounds j u) t (0, 0)) := by
  simp [World.setCell, Array.getElem?_modify, h]
theorem setc_other {w : World} {k j i : Nat} (u : Value) (h : i ≠ k) : (w.setCell ⟨k, j, none⟩ u).heap[i]? = w.heap[i]? := by
  simp [World.setCell, Array.getElem?_modify]
  intro e; exact absurd e.symm h
theorem setc_size (w : World) (a : Addr) (u : Value) : (w.setCell a u).heap.size = w.heap.size := by simp [World.setCell]
theorem RW.set {R : Nat} {w W : World} (h : RW R w W) {k j : Nat} (u : Value) (hk : w.heap.size ≤ k) (hR : R + 2 ≤ w.heap.size) : RW R w (W.setCell ⟨k, j, none⟩ u) :=
  ⟨h.bl.trans ⟨rfl, rfl, rfl, by rw [setc_size]; exact Nat.le_refl _, fun i hi => setc_other u (by omega)⟩, fun i h1 h2 => (setc_other u (by omega)).trans (h.ok i h1 h2)⟩
theorem Rd.set {R : Nat} {s : ByteArray} {st : St} {w : World} (h : Rd R s st w) {k j : Nat} (u : Value) (hk : R + 4 < k) : Rd R s st (w.setCell ⟨k, j, none⟩ u) := by
  obtain ⟨h0, h1, h4, pos, sh, h2, h3, h5⟩ := h
  exact ⟨(setc_other u (by omega)).trans h0, (setc_other u (by omega)).trans h1, (setc_other u (by omega)).trans h4, pos, sh, (setc_other u (by omega)).trans h2, (setc_other u (by omega)).trans h3, h5⟩
theorem Env.set {R N T : Nat} {w : World} (h : Env R N T w) {k j : Nat} (u : Value) (hn : N ≠ k) (ht : T ≠ k) : Env R N T (w.setCell ⟨k, j, none⟩ u) := ⟨(setc_other u hn).trans h.hN, (setc_other u ht).trans h.hT, h.n, h.t⟩
set_option maxHeartbeats 4000000 in
theorem field1_any (R N T : Nat) (s : ByteArray) (st : St) (hs : s.size ≤ 100000000) (w : World) (hR : Rd R s st w) (hE : Env R N T w) :
    Calls Try.prog 35 #[.pointer (some ⟨T, 0, none⟩), .pointer (some ⟨N, 0, none⟩)] w fun e w' => e = .returned (fldD st).1.v ∧ Rd R s (fldD st).2 w' ∧ RW R w w' := by
  have hRl := hR.lt
  obtain ⟨hNl, hTl⟩ := hE.lt
  have hN4 := hE.n
  have hT4 := hE.t
  have hal : Bl w (w.alloc (.cells #[.string ⟨#[]⟩, .int .u8 0, .int .i64 0, .int .i64 0, .int .i64 0] 48)) := (Bl.refl _).alloc _
  have hXh := heap_new w #[.string ⟨#[]⟩, .int .u8 0, .int .i64 0, .int .i64 0, .int .i64 0] 48
  have hRa := hR.gr hal
  have hEa := hE.gr hal
  have kt := text_any' R s st hs _ hRa
  have gT : (w.alloc (.cells #[.string ⟨#[]⟩, .int .u8 0, .int .i64 0, .int .i64 0, .int .i64 0] 48)).cell? ⟨T, 0, none⟩ = some (.func (.func 67) #[] #[.pointer (some ⟨R + 4, 0, none⟩), .pointer (some ⟨R + 1, 0, none⟩)]) := by rw [cell_at hEa.hT]; rfl
  unfold fldD Fd.v
  dsimp only
  generalize (⟨(txtD st).1.toArray⟩ : ByteArray) = nm at kt ⊢
  generalize (txtD st).2 = st1 at kt ⊢
  have kn1 := fun W (h : Rd R s st1 W) => number_any' R s st1 hs W h
  have bd1 := numM_bd st1
  generalize (numM st1).1 = vk at kn1 bd1 ⊢
  generalize (numM st1).2 = st2 at kn1 ⊢
  have kn2 := fun W (h : Rd R s st2 W) => number_any' R s st2 hs W h
  have bd2 := numM_bd st2
  generalize (numM st2).1 = va at kn2 bd2 ⊢
  generalize (numM st2).2 = st3 at kn2 ⊢
  have kn3 := fun W (h : Rd R s st3 W) => number_any' R s st3 hs W h
  have bd3 := numM_bd st3
  generalize (numM st3).1 = vo at kn3 bd3 ⊢
  generalize (numM st3).2 = st4 at kn3 ⊢
  have kn4 := fun W (h : Rd R s st4 W) => number_any' R s st4 hs W h
  have bd4 := numM_bd st4
  generalize (numM st4).1 = vd at kn4 bd4 ⊢
  generalize (numM st4).2 = st5 at kn4 ⊢
  have e8 : IntKind.u8.wrap vk = vk := by simp [IntKind.wrap, IntKind.signed, IntKind.bits]; omega
  go_enter Try.func35, Try.ntmps35
  go_upto_region 2 with (go_at_call 67; refine kt.mono ?_; rintro e w1 ⟨rfl, hR1, hw1⟩)
  have hX1 := hw1.heap hXh (.inl (by omega))
  have hE1 := hEa.rw hw1
  have hs1 : w.heap.size + 1 ≤ w1.heap.size := by have := hw1.bl.size; rw [size_new] at this; exact this
  have hal1 : Bl w1 (w1.alloc (.cells #[.string nm, .int .u8 0, .int .i64 0, .int .i64 0, .int .i64 0] 48)) := (Bl.refl _).alloc _
  have hRW : RW R w (w1.alloc (.cells #[.string nm, .int .u8 0, .int .i64 0, .int .i64 0, .int .i64 0] 48)) := (RW.of hal (by omega)).trans (hw1.trans (RW.of hal1 (by omega)))
  have hY := heap_new w1 #[.string nm, .int .u8 0, .int .i64 0, .int .i64 0, .int .i64 0] 48
  have hX := it_keep (w := w) hX1 hal1
  have hE := hE1.gr hal1
  have hR := hR1.gr hal1
  have hYs : w1.heap.size < (w1.alloc (.cells #[.string nm, .int .u8 0, .int .i64 0, .int .i64 0, .int .i64 0] 48)).heap.size := by rw [size_new]; omega
  generalize (w1.alloc (.cells #[.string nm, .int .u8 0, .int .i64 0, .int .i64 0, .int .i64 0] 48)) = W at hRW hY hX hE hR hYs ⊢
  clear hal1 hX1 hE1 hR1 hw1 gT hRa hEa hXh hal kt
  generalize hYn : w1.heap.size = Y at hY hs1 hYs ⊢
  clear hYn
  have kn := kn1 W hR
  have gN : W.cell? ⟨N, 0, none⟩ = some (.func (.func 65) #[] #[.pointer (some ⟨R + 4, 0, none⟩)]) := by rw [cell_at hE.hN]; rfl
  have F1 : 0 ≤ 0 := Nat.le_refl 0
  go_upto_region 3 with (go_at_call 65; have q := F1; clear F1 q; refine kn.mono ?_; rintro e w2 ⟨rfl, hR2, hw2⟩; have hY2 := hw2.heap hY (.inl (by omega)); have y2 : w2.cell? ⟨Y, 1, none⟩ = some (.int .u8 0) := (by rw [cell_at hY2]; rfl); have f2 := froz_at (j := 1) hY2)
  have hX3 := (setc_other (k := Y) (i := w.heap.size) (j := 1) (.int .u8 vk) (by omega)).trans (hw2.heap hX (.inl (by omega)))
  have hY3 := setc_heap (j := 1) (.int .u8 vk) hY2
  have hE3 := (hE.rw hw2).set (k := Y) (j := 1) (.int .u8 vk) (by omega) (by omega)
  have hR3 := hR2.set (k := Y) (j := 1) (.int .u8 vk) (by omega)
  have hW3 := (hRW.trans hw2).set (k := Y) (j := 1) (.int .u8 vk) (by omega) (by omega)
  have hS3 : Y < (w2.setCell ⟨Y, 1, none⟩ (.int .u8 vk)).heap.size := by rw [setc_size]; have := hw2.bl.size; omega
  generalize (w2.setCell ⟨Y, 1, none⟩ (.int .u8 vk)) = W3 at hX3 hY3 hE3 hR3 hW3 hS3 ⊢
  replace hY3 : W3.heap[Y]? = some (.cells #[.string nm, .int .u8 vk, .int .i64 0, .int .i64 0, .int .i64 0] 48 (0, 0)) := hY3
  clear hX hY hE hR hRW hYs hY2 y2 f2 hw2 hR2 gN kn
  have hX := hX3
  have hY := hY3
  have hE := hE3
  have hR := hR3
  have hRW := hW3
  have hYs := hS3
  clear hX3 hY3 hE3 hR3 hW3 hS3
  generalize W3 = W at hX hY hE hR hRW hYs ⊢
  have kn := kn2 W hR
  have gN : W.cell? ⟨N, 0, none⟩ = some (.func (.func 65) #[] #[.pointer (some ⟨R + 4, 0, none⟩)]) := by rw [cell_at hE.hN]; rfl
  have F1 : 0 ≤ 0 := Nat.le_refl 0
  go_upto_region 4 with (go_at_call 65; have q := F1; clear F1 q; refine kn.mono ?_; rintro e w2 ⟨rfl, hR2, hw2⟩; have hY2 := hw2.heap hY (.inl (by omega)); have y2 : w2.cell? ⟨Y, 2, none⟩ = some (.int .i64 0) := (by rw [cell_at hY2]; rfl); have f2 := froz_at (j := 2) hY2)
  have hX3 := (setc_other (k := Y) (i := w.heap.size) (j := 2) (.int .i64 va) (by omega)).trans (hw2.heap hX (.inl (by omega)))
  have hY3 := setc_heap (j := 2) (.int .i64 va) hY2
  have hE3 := (hE.rw hw2).set (k := Y) (j := 2) (.int .i64 va) (by omega) (by omega)
  have hR3 := hR2.set (k := Y) (j := 2) (.int .i64 va) (by omega)
  have hW3 := (hRW.trans hw2).set (k := Y) (j := 2) (.int .i64 va) (by omega) (by omega)
  have hS3 : Y < (w2.setCell ⟨Y, 2, none⟩ (.int .i64 va)).heap.size := by rw [setc_size]; have := hw2.bl.size; omega
  generalize (w2.setCell ⟨Y, 2, none⟩ (.int .i64 va)) = W3 at hX3 hY3 hE3 hR3 hW3 hS3 ⊢
  replace hY3 : W3.heap[Y]? = some (.cells #[.string nm, .int .u8 vk, .int .i64 va, .int .i64 0, .int .i64 0] 48 (0, 0)) := hY3
  clear hX hY hE hR hRW hYs hY2 y2 f2 hw2 hR2 gN kn
  have hX := hX3
  have hY := hY3
  have hE := hE3
  have hR := hR3
  have hRW := hW3
  have hYs := hS3
  clear hX3 hY3 hE3 hR3 hW3 hS3
  generalize W3 = W at hX hY hE hR hRW hYs ⊢
  have kn := kn3 W hR
  have gN : W.cell? ⟨N, 0, none⟩ = some (.func (.func 65) #[] #[.pointer (some ⟨R + 4, 0, none⟩)]) := by rw [cell_at hE.hN]; rfl
  have F1 : 0 ≤ 0 := Nat.le_refl 0
  go_upto_region 5 with (go_at_call 65; have q := F1; clear F1 q; refine kn.mono ?_; rintro e w2 ⟨rfl, hR2, hw2⟩; have hY2 := hw2.heap hY (.inl (by omega)); have y2 : w2.cell? ⟨Y, 3, none⟩ = some (.int .i64 0) := (by rw [cell_at hY2]; rfl); have f2 := froz_at (j := 3) hY2)
  have hX3 := (setc_other (k := Y) (i := w.heap.size) (j := 3) (.int .i64 vo) (by omega)).trans (hw2.heap hX (.inl (by omega)))
  have hY3 := setc_heap (j := 3) (.int .i64 vo) hY2
  have hE3 := (hE.rw hw2).set (k := Y) (j := 3) (.int .i64 vo) (by omega) (by omega)
  have hR3 := hR2.set (k := Y) (j := 3) (.int .i64 vo) (by omega)
  have hW3 := (hRW.trans hw2).set (k := Y) (j := 3) (.int .i64 vo) (by omega) (by omega)
  have hS3 : Y < (w2.setCell ⟨Y, 3, none⟩ (.int .i64 vo)).heap.size := by rw [setc_size]; have := hw2.bl.size; omega
  generalize (w2.setCell ⟨Y, 3, none⟩ (.int .i64 vo)) = W3 at hX3 hY3 hE3 hR3 hW3 hS3 ⊢
  replace hY3 : W3.heap[Y]? = some (.cells #[.string nm, .int .u8 vk, .int .i64 va, .int .i64 vo, .int .i64 0] 48 (0, 0)) := hY3
  clear hX hY hE hR hRW hYs hY2 y2 f2 hw2 hR2 gN kn
  have hX := hX3
  have hY := hY3
  have hE := hE3
  have hR := hR3
  have hRW := hW3
  have hYs := hS3
  clear hX3 hY3 hE3 hR3 hW3 hS3
  generalize W3 = W at hX hY hE hR hRW hYs ⊢
  have kn := kn4 W hR
  have gN : W.cell? ⟨N, 0, none⟩ = some (.func (.func 65) #[] #[.pointer (some ⟨R + 4, 0, none⟩)]) := by rw [cell_at hE.hN]; rfl
  have F1 : 0 ≤ 0 := Nat.le_refl 0
  go_upto_region 6 with (go_at_call 65; have q := F1; clear F1 q; refine kn.mono ?_; rintro e w2 ⟨rfl, hR2, hw2⟩; have hY2 := hw2.heap hY (.inl (by omega)); have y2 : w2.cell? ⟨Y, 4, none⟩ = some (.int .i64 0) := (by rw [cell_at hY2]; rfl); have f2 := froz_at (j := 4) hY2)
  have hX3 := (setc_other (k := Y) (i := w.heap.size) (j := 4) (.int .i64 vd) (by omega)).trans (hw2.heap hX (.inl (by omega)))
  have hY3 := setc_heap (j := 4) (.int .i64 vd) hY2
  have hE3 := (hE.rw hw2).set (k := Y) (j := 4) (.int .i64 vd) (by omega) (by omega)
  have hR3 := hR2.set (k := Y) (j := 4) (.int .i64 vd) (by omega)
  have hW3 := (hRW.trans hw2).set (k := Y) (j := 4) (.int .i64 vd) (by omega) (by omega)
  have hS3 : Y < (w2.setCell ⟨Y, 4, none⟩ (.int .i64 vd)).heap.size := by rw [setc_size]; have := hw2.bl.size; omega
  generalize (w2.setCell ⟨Y, 4, none⟩ (.int .i64 vd)) = W3 at hX3 hY3 hE3 hR3 hW3 hS3 ⊢
  replace hY3 : W3.heap[Y]? = some (.cells #[.string nm, .int .u8 vk, .int .i64 va, .int .i64 vo, .int .i64 vd] 48 (0, 0)) := hY3
  clear hX hY hE hR hRW hYs hY2 y2 f2 hw2 hR2 gN kn
  have hX := hX3
  have hY := hY3
  have hE := hE3
  have hR := hR3
  have hRW := hW3
  have hYs := hS3
  clear hX3 hY3 hE3 hR3 hW3 hS3
  generalize W3 = W at hX hY hE hR hRW hYs ⊢
  have y0 : W.cell? ⟨Y, 0, none⟩ = some (.string nm) := by rw [cell_at hY]; rfl
  have y1 : W.cell? ⟨Y, 1, none⟩ = some (.int .u8 vk) := by rw [cell_at hY]; rfl
  have y2 : W.cell? ⟨Y, 2, none⟩ = some (.int .i64 va) := by rw [cell_at hY]; rfl
  have y3 : W.cell? ⟨Y, 3, none⟩ = some (.int .i64 vo) := by rw [cell_at hY]; rfl
  have y4 : W.cell? ⟨Y, 4, none⟩ = some (.int .i64 vd) := by rw [cell_at hY]; rfl
  have x0 : W.cell? ⟨w.heap.size, 0, none⟩ = some (.string ⟨#[]⟩) := by rw [cell_at hX]; rfl
  have f0 := froz_at (j := 0) hX
  have x1 : W.cell? ⟨w.heap.size, 1, none⟩ = some (.int .u8 0) := by rw [cell_at hX]; rfl
  have f1 := froz_at (j := 1) hX
  have x2 : W.cell? ⟨w.heap.size, 2, none⟩ = some (.int .i64 0) := by rw [cell_at hX]; rfl
  have f2 := froz_at (j := 2) hX
  have x3 : W.cell? ⟨w.heap.size, 3, none⟩ = some (.int .i64 0) := by rw [cell_at hX]; rfl
  have f3 := froz_at (j := 3) hX
  have x4 : W.cell? ⟨w.heap.size, 4, none⟩ = some (.int .i64 0) := by rw [cell_at hX]; rfl
  have f4 := froz_at (j := 4) hX
  have hX5 := (setc_heap (j := 4) (.int .i64 vd) (setc_heap (j := 3) (.int .i64 vo) (setc_heap (j := 2) (.int .i64 va) (setc_heap (j := 1) (.int .u8 vk) (setc_heap (j := 0) (.string nm) hX)))))
  have hR5 := (((((hR.set (k := w.heap.size) (j := 0) (.string nm) (by omega)).set (k := w.heap.size) (j := 1) (.int .u8 vk) (by omega)).set (k := w.heap.size) (j := 2) (.int .i64 va) (by omega)).set (k := w.heap.size) (j := 3) (.int .i64 vo) (by omega)).set (k := w.heap.size) (j := 4) (.int .i64 vd) (by omega))
  have hW5 := (((((hRW.set (k := w.heap.size) (j := 0) (.string nm) (Nat.le_refl _) (by omega)).set (k := w.heap.size) (j := 1) (.int .u8 vk) (Nat.le_refl _) (by omega)).set (k := w.heap.size) (j := 2) (.int .i64 va) (Nat.le_refl _) (by omega)).set (k := w.heap.size) (j := 3) (.int .i64 vo) (Nat.le_refl _) (by omega)).set (k := w.heap.size) (j := 4) (.int .i64 vd) (Nat.le_refl _) (by omega))
  go_wp2
  have e0 := cell_at (j := 0) hX5
  have e1 := cell_at (j := 1) hX5
  have e2 := cell_at (j := 2) hX5
  have e3 := cell_at (j := 3) hX5
  have e4 := cell_at (j := 4) hX5
  generalize (((((W.setCell ⟨w.heap.size, 0, none⟩ (.string nm)).setCell ⟨w.heap.size, 1, none⟩ (.int .u8 vk)).setCell ⟨w.heap.size, 2, none⟩ (.int .i64 va)).setCell ⟨w.heap.size, 3, none⟩ (.int .i64 vo)).setCell ⟨w.heap.size, 4, none⟩ (.int .i64 vd)) = WF at e0 e1 e2 e3 e4 hR5 hW5 hX5 ⊢
  simp at e0 e1 e2 e3 e4
  refine bodyPost_ret (v := .agg #[.string nm, .int .u8 vk, .int .i64 va, .int .i64 vo, .int .i64 vd]) (by simp [results, Try.results35, go_sem, e0, e1, e2, e3, e4]; try rfl) rfl ⟨rfl, hR5, hW5⟩
end Go.Proofs.Ytmcjmdoeafhjpaa
