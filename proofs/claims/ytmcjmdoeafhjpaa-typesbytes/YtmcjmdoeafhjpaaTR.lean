/- Towards the statements of package types (layer 10): a type is read. -/
import Derived.Test.YtmcjmdoeafhjpaaTQ
namespace Go.Proofs.Ytmcjmdoeafhjpaa
open Go.ChangeShapes Go.WideShapes Go.ChangeAt
open Go.RowKit Go.Shelf
set_option linter.unusedVariables false
set_option linter.unusedSimpArgs false
set_option maxRecDepth 20000

abbrev Core := ByteArray × Int × List Fd
def Ty.core (t : Ty) : Core := (t.n, t.s, t.fs)
def tyD (st : St) : Core × St :=
  ((⟨(txtD st).1.toArray⟩, (numM (txtD st).2).1, (sevD fldD (numM (numM (txtD st).2).2).1.toNat (numM (numM (txtD st).2).2).2).1), (sevD fldD (numM (numM (txtD st).2).2).1.toNat (numM (numM (txtD st).2).2).2).2)
theorem FCell.heap {w w' : World} {b k : Nat} {x : Fd} (h : FCell w b k x) (hb : w'.heap[b]? = w.heap[b]?) : FCell w' b k x := by
  have e : ∀ j, w'.cell? ⟨b, j, none⟩ = w.cell? ⟨b, j, none⟩ := fun j => World.cell?_of_block (w := w) hb
  exact ⟨(e _).trans h.1, (e _).trans h.2.1, (e _).trans h.2.2.1, (e _).trans h.2.2.2.1, (e _).trans h.2.2.2.2⟩
theorem Flds.heap {w w' : World} {b o : Nat} {l : List Fd} (h : Flds w (some ⟨b, o, none⟩) l) (hb : w'.heap[b]? = w.heap[b]?) (hs : w.heap.size ≤ w'.heap.size) : Flds w' (some ⟨b, o, none⟩) l := by
  refine ⟨h.ok, h.len, ?_⟩
  rcases h.at' with e | ⟨b', off, e, hb1, hc⟩
  · exact .inl e
  · cases e
    exact .inr ⟨_, _, rfl, Nat.lt_of_lt_of_le hb1 hs, fun j x hx => (hc j x hx).heap hb⟩
/-- A type that was read, its fields in a block from G on. -/
structure Read (G : Nat) (w : World) (t : Ty) : Prop where
  at' : ∃ g, t.p = some ⟨g, 0, none⟩ ∧ G ≤ g ∧ g < w.heap.size
  ok : t.ok w
theorem Read.heap {G : Nat} {w w' : World} {t : Ty} (h : Read G w t) (hb : ∀ g, G ≤ g → g < w.heap.size → w'.heap[g]? = w.heap[g]?) (hs : w.heap.size ≤ w'.heap.size) : Read G w' t := by
  obtain ⟨⟨g, e, h1, h2⟩, h3⟩ := h
  refine ⟨⟨g, e, h1, Nat.lt_of_lt_of_le h2 hs⟩, h3.n, h3.s, h3.c, ?_⟩
  have := h3.f
  rw [e] at this ⊢
  exact this.heap (hb g h1 h2) hs
set_option maxHeartbeats 8000000 in
theorem type1_any (R N T F : Nat) (s : ByteArray) (st : St) (hs : s.size ≤ 100000000) (w : World) (hR : Rd R s st w) (hE : Env R N T w) (hF : w.heap[F]? = some (.cells #[.func (.func 35) #[] #[.pointer (some ⟨T, 0, none⟩), .pointer (some ⟨N, 0, none⟩)]] 74 (0, 0))) (hF4 : R + 4 < F) :
    Calls Try.prog 37 #[.pointer (some ⟨T, 0, none⟩), .pointer (some ⟨N, 0, none⟩), .pointer (some ⟨F, 0, none⟩)] w fun e w' => ∃ t : Ty, e = .returned t.v ∧ t.core = (tyD st).1 ∧ Read w.heap.size w' t ∧ Rd R s (tyD st).2 w' ∧ RW R w w' := by
  have hRl := hR.lt
  obtain ⟨hNl, hTl⟩ := hE.lt
  have hFl := ch_lt hF
  have hN4 := hE.n
  have hT4 := hE.t
  have hal : Bl w (w.alloc (.cells #[.string ⟨#[]⟩, .int .i64 0, .slice none 0 0] 42)) := (Bl.refl _).alloc _
  have hXh := heap_new w #[.string ⟨#[]⟩, .int .i64 0, .slice none 0 0] 42
  have hRa := hR.gr hal
  have hEa := hE.gr hal
  have kt := text_any' R s st hs _ hRa
  have gT : (w.alloc (.cells #[.string ⟨#[]⟩, .int .i64 0, .slice none 0 0] 42)).cell? ⟨T, 0, none⟩ = some (.func (.func 67) #[] #[.pointer (some ⟨R + 4, 0, none⟩), .pointer (some ⟨R + 1, 0, none⟩)]) := by rw [cell_at hEa.hT]; rfl
  have htl : ((⟨(txtD st).1.toArray⟩ : ByteArray)).size ≤ maxLen := by
    show (txtD st).1.toArray.size ≤ maxLen
    rw [List.size_toArray]
    have := take_len (numM st).2 (numM st).1.toNat
    have := numM_bd st
    unfold txtD maxLen; omega
  unfold tyD
  dsimp only
  generalize (⟨(txtD st).1.toArray⟩ : ByteArray) = nm at kt htl ⊢
  generalize (txtD st).2 = st1 at kt ⊢
  have kn1 := fun W (h : Rd R s st1 W) => number_any' R s st1 hs W h
  have bd1 := numM_bd st1
  generalize (numM st1).1 = vs at kn1 bd1 ⊢
  generalize (numM st1).2 = st2 at kn1 ⊢
  have kn2 := fun W (h : Rd R s st2 W) => number_any' R s st2 hs W h
  have bd2 := numM_bd st2
  generalize (numM st2).1 = vn at kn2 bd2 ⊢
  generalize (numM st2).2 = st3 at kn2 ⊢
  obtain ⟨n, rfl⟩ := Int.eq_ofNat_of_zero_le bd2.1
  simp only [Int.toNat_natCast]
  have kse := fun W (h : Rd R s st3 W) (h' : Env R N T W) => sevF_any R N T s st3 hs n (by omega) W h h'
  have hsl := sevD_len fldD n st3
  generalize sevD fldD n st3 = sv at kse hsl ⊢
  replace hsl : Hid (sv.1.length = n) := hsl
  go_enter Try.func37, Try.ntmps37
  go_upto_region 2 with (go_at_call 67; refine kt.mono ?_; rintro e w1 ⟨rfl, hR1, hw1⟩)
  have hX1 := hw1.heap hXh (.inl (by omega))
  have hE1 := hEa.rw hw1
  have hF1 := hw1.heap (it_keep (w := w) hF hal) (.inl (by omega))
  have hs1 : w.heap.size + 1 ≤ w1.heap.size := by have := hw1.bl.size; rw [size_new] at this; exact this
  have hal1 : Bl w1 (w1.alloc (.cells #[.string nm, .int .i64 0, .slice none 0 0] 42)) := (Bl.refl _).alloc _
  have hRW : RW R w (w1.alloc (.cells #[.string nm, .int .i64 0, .slice none 0 0] 42)) := (RW.of hal (by omega)).trans (hw1.trans (RW.of hal1 (by omega)))
  have hY := heap_new w1 #[.string nm, .int .i64 0, .slice none 0 0] 42
  have hX := it_keep (w := w) hX1 hal1
  have hE := hE1.gr hal1
  have hF := it_keep (w := w) hF1 hal1
  have hR := hR1.gr hal1
  have hYs : w1.heap.size < (w1.alloc (.cells #[.string nm, .int .i64 0, .slice none 0 0] 42)).heap.size := by rw [size_new]; omega
  generalize (w1.alloc (.cells #[.string nm, .int .i64 0, .slice none 0 0] 42)) = W at hRW hY hX hE hF hR hYs ⊢
  clear hal1 hX1 hE1 hR1 hw1 gT hRa hEa hXh hal kt hF1
  generalize hYn : w1.heap.size = Y at hY hs1 hYs ⊢
  clear hYn
  have kn := kn1 W hR
  have gN : W.cell? ⟨N, 0, none⟩ = some (.func (.func 65) #[] #[.pointer (some ⟨R + 4, 0, none⟩)]) := by rw [cell_at hE.hN]; rfl
  go_upto_region 3 with (go_at_call 65; refine kn.mono ?_; rintro e w2 ⟨rfl, hR2, hw2⟩; have hY2 := hw2.heap hY (.inl (by omega)); have y2 : w2.cell? ⟨Y, 1, none⟩ = some (.int .i64 0) := (by rw [cell_at hY2]; rfl); have f2 := froz_at (j := 1) hY2)
  have hX3 := (setc_other (k := Y) (i := w.heap.size) (j := 1) (.int .i64 vs) (by omega)).trans (hw2.heap hX (.inl (by omega)))
  have hF3 := (setc_other (k := Y) (i := F) (j := 1) (.int .i64 vs) (by omega)).trans (hw2.heap hF (.inl (by omega)))
  have hY3 := setc_heap (j := 1) (.int .i64 vs) hY2
  have hE3 := (hE.rw hw2).set (k := Y) (j := 1) (.int .i64 vs) (by omega) (by omega)
  have hR3 := hR2.set (k := Y) (j := 1) (.int .i64 vs) (by omega)
  have hW3 := (hRW.trans hw2).set (k := Y) (j := 1) (.int .i64 vs) (by omega) (by omega)
  have hS3 : Y < (w2.setCell ⟨Y, 1, none⟩ (.int .i64 vs)).heap.size := by rw [setc_size]; have := hw2.bl.size; omega
  generalize (w2.setCell ⟨Y, 1, none⟩ (.int .i64 vs)) = W3 at hX3 hY3 hE3 hF3 hR3 hW3 hS3 ⊢
  replace hY3 : W3.heap[Y]? = some (.cells #[.string nm, .int .i64 vs, .slice none 0 0] 42 (0, 0)) := hY3
  clear hX hY hE hR hRW hYs hY2 y2 f2 hw2 hR2 gN kn hF kn1
  have hdr : Bl W3 W3.drew := by go_grown
  have hR4 := hR3.gr hdr
  have hE4 := hE3.gr hdr
  have hX4 := it_keep (w := w) hX3 hdr
  have hY4 := it_keep (w := w) hY3 hdr
  have hF4' := it_keep (w := w) hF3 hdr
  have hW4 : RW R w W3.drew := hW3.trans (RW.of hdr (by omega))
  have hS4 : Y < W3.drew.heap.size := Nat.lt_of_lt_of_le hS3 hdr.size
  have gN : W3.drew.cell? ⟨N, 0, none⟩ = some (.func (.func 65) #[] #[.pointer (some ⟨R + 4, 0, none⟩)]) := by rw [cell_at hE4.hN]; rfl
  have gF : W3.drew.cell? ⟨F, 0, none⟩ = some (.func (.func 35) #[] #[.pointer (some ⟨T, 0, none⟩), .pointer (some ⟨N, 0, none⟩)]) := by rw [cell_at hF4']; rfl
  have kn := kn2 _ hR4
  clear kn2
  have fin : ∀ (w5 w6 : World), RW R W3.drew w5 → RW R w5 w6 → Rd R s sv.2 w6 → Flds w6 (some ⟨w5.heap.size, 0, none⟩) sv.1 → True := fun _ _ _ _ _ _ => trivial
  go_region_with first | (go_at_call 65; refine kn.mono ?_; rintro e w5 ⟨rfl, hR5, hw5⟩; have gF5 : w5.cell? ⟨F, 0, none⟩ = some (.func (.func 35) #[] #[.pointer (some ⟨T, 0, none⟩), .pointer (some ⟨N, 0, none⟩)]) := (by rw [cell_at (hw5.heap hF4' (.inl (by omega)))]; rfl)) | (go_at_call 38; refine (kse _ hR5 (hE4.rw hw5)).mono ?_; rintro e w6 ⟨rfl, hfl, hR6, hw6, hg6⟩; have hY6 := (hw5.trans hw6).heap hY4 (.inl (by omega)); have y6 : w6.cell? ⟨Y, 2, none⟩ = some (.slice none 0 0) := (by rw [cell_at hY6]; rfl); have f6 := froz_at (j := 2) hY6)
  all_goals
    have hs5 := hw5.bl.size
    have hs6 := hw6.bl.size
    have hX7 := (setc_other (k := Y) (i := w.heap.size) (j := 2) (.slice (some ⟨w5.heap.size, 0, none⟩) n n) (by omega)).trans ((hw5.trans hw6).heap hX4 (.inl (by omega)))
    have hY7 := setc_heap (j := 2) (.slice (some ⟨w5.heap.size, 0, none⟩) n n) hY6
    have hR7 := hR6.set (k := Y) (j := 2) (.slice (some ⟨w5.heap.size, 0, none⟩) n n) (by omega)
    have hW7 := (hW4.trans (hw5.trans hw6)).set (k := Y) (j := 2) (.slice (some ⟨w5.heap.size, 0, none⟩) n n) (by omega) (by omega)
    have hsz7 := setc_size w6 ⟨Y, 2, none⟩ (.slice (some ⟨w5.heap.size, 0, none⟩) n n)
    have hf7 := hfl.heap (w' := w6.setCell ⟨Y, 2, none⟩ (.slice (some ⟨w5.heap.size, 0, none⟩) n n)) (setc_other _ (by omega)) (by omega)
    replace hsz7 : w6.heap.size ≤ (w6.setCell ⟨Y, 2, none⟩ (.slice (some ⟨w5.heap.size, 0, none⟩) n n)).heap.size := by omega
    generalize (w6.setCell ⟨Y, 2, none⟩ (.slice (some ⟨w5.heap.size, 0, none⟩) n n)) = W7 at hX7 hY7 hR7 hW7 hf7 hsz7 ⊢
    replace hY7 : W7.heap[Y]? = some (.cells #[.string nm, .int .i64 vs, .slice (some ⟨w5.heap.size, 0, none⟩) n n] 42 (0, 0)) := hY7
    clear y6 f6 hY6 gN gF
    have hg5 : w.heap.size ≤ w5.heap.size := by omega
    have hg7 : w5.heap.size < W7.heap.size := by omega
    have y0 : W7.cell? ⟨Y, 0, none⟩ = some (.string nm) := by rw [cell_at hY7]; rfl
    have y1 : W7.cell? ⟨Y, 1, none⟩ = some (.int .i64 vs) := by rw [cell_at hY7]; rfl
    have y2 : W7.cell? ⟨Y, 2, none⟩ = some (.slice (some ⟨w5.heap.size, 0, none⟩) n n) := by rw [cell_at hY7]; rfl
    have x0 : W7.cell? ⟨w.heap.size, 0, none⟩ = some (.string ⟨#[]⟩) := by rw [cell_at hX7]; rfl
    have f0 := froz_at (j := 0) hX7
    have x1 : W7.cell? ⟨w.heap.size, 1, none⟩ = some (.int .i64 0) := by rw [cell_at hX7]; rfl
    have f1 := froz_at (j := 1) hX7
    have x2 : W7.cell? ⟨w.heap.size, 2, none⟩ = some (.slice none 0 0) := by rw [cell_at hX7]; rfl
    have f2 := froz_at (j := 2) hX7
    have hX9 := (setc_heap (j := 2) (.slice (some ⟨w5.heap.size, 0, none⟩) n n) (setc_heap (j := 1) (.int .i64 vs) (setc_heap (j := 0) (.string nm) hX7)))
    have hR9 := (((hR7.set (k := w.heap.size) (j := 0) (.string nm) (by omega)).set (k := w.heap.size) (j := 1) (.int .i64 vs) (by omega)).set (k := w.heap.size) (j := 2) (.slice (some ⟨w5.heap.size, 0, none⟩) n n) (by omega))
    have hW9 := (((hW7.set (k := w.heap.size) (j := 0) (.string nm) (Nat.le_refl _) (by omega)).set (k := w.heap.size) (j := 1) (.int .i64 vs) (Nat.le_refl _) (by omega)).set (k := w.heap.size) (j := 2) (.slice (some ⟨w5.heap.size, 0, none⟩) n n) (Nat.le_refl _) (by omega))
    have hs9 : W7.heap.size ≤ (((W7.setCell ⟨w.heap.size, 0, none⟩ (.string nm)).setCell ⟨w.heap.size, 1, none⟩ (.int .i64 vs)).setCell ⟨w.heap.size, 2, none⟩ (.slice (some ⟨w5.heap.size, 0, none⟩) n n)).heap.size := by rw [setc_size, setc_size, setc_size]; omega
    have hf9 := hf7.heap (w' := (((W7.setCell ⟨w.heap.size, 0, none⟩ (.string nm)).setCell ⟨w.heap.size, 1, none⟩ (.int .i64 vs)).setCell ⟨w.heap.size, 2, none⟩ (.slice (some ⟨w5.heap.size, 0, none⟩) n n))) (by rw [setc_other _ (by omega), setc_other _ (by omega), setc_other _ (by omega)]) hs9
    go_wp2
    have e0 := cell_at (j := 0) hX9
    have e1 := cell_at (j := 1) hX9
    have e2 := cell_at (j := 2) hX9
    generalize (((W7.setCell ⟨w.heap.size, 0, none⟩ (.string nm)).setCell ⟨w.heap.size, 1, none⟩ (.int .i64 vs)).setCell ⟨w.heap.size, 2, none⟩ (.slice (some ⟨w5.heap.size, 0, none⟩) n n)) = WF at e0 e1 e2 hR9 hW9 hX9 hs9 hf9 ⊢
    simp at e0 e1 e2
    refine bodyPost_ret (v := .agg #[.string nm, .int .i64 vs, .slice (some ⟨w5.heap.size, 0, none⟩) n n]) (by simp [results, Try.results37, go_sem, e0, e1, e2]; try rfl) rfl ?_
    refine ⟨⟨nm, vs, some ⟨w5.heap.size, 0, none⟩, n, sv.1⟩, by unfold Ty.v; dsimp only; rw [hsl.out], rfl, ⟨⟨_, rfl, by omega, by omega⟩, htl, ⟨by dsimp only; omega, by dsimp only; omega⟩, ⟨by show sv.1.length ≤ n; rw [hsl.out]; exact Nat.le_refl _, by show n ≤ maxLen; unfold maxLen; omega⟩, hf9⟩, hR9, hW9⟩
end Go.Proofs.Ytmcjmdoeafhjpaa
