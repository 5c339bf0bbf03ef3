/- Towards the statements of package types (layer 10): several fields are read. -/
import Derived.Test.YtmcjmdoeafhjpaaTP
namespace Go.Proofs.Ytmcjmdoeafhjpaa
open Go.ChangeShapes Go.WideShapes Go.ChangeAt
open Go.RowKit Go.Shelf
set_option linter.unusedVariables false
set_option linter.unusedSimpArgs false
set_option maxRecDepth 20000
def sevD {α : Type} (f : St → α × St) : Nat → St → List α × St
  | 0, st => ([], st)
  | n + 1, st => ((f st).1 :: (sevD f n (f st).2).1, (sevD f n (f st).2).2)
theorem sevD_len {α : Type} (f : St → α × St) : ∀ n st, (sevD f n st).1.length = n
  | 0, _ => rfl
  | n + 1, st => by simp [sevD, sevD_len f n]
theorem info48 : (Try.prog.info? 48).map (fun i => (i.zero, i.size, i.bytes)) = some (some (.agg #[.string ⟨#[]⟩, .int .u8 0, .int .i64 0, .int .i64 0, .int .i64 0]), 5, 48) := by kernel_rfl
theorem info_parts {P : Program} {t : TypeId} {z : Value} {a b : Nat} (h : (P.info? t).map (fun i => (i.zero, i.size, i.bytes)) = some (some z, a, b)) : ∃ i, P.info? t = some i ∧ i.zero = some z ∧ i.size = a ∧ i.bytes = b := by
  cases hi : P.info? t with
  | none => rw [hi] at h; cases h
  | some i =>
    rw [hi] at h
    simp at h
    exact ⟨i, rfl, h.1, h.2.1, h.2.2⟩
theorem arr_cell {W : World} {g k : Nat} {arr : Array Value} {t : TypeId} (h : W.heap[g]? = some (.cells arr t (0, 0))) (hk : k < arr.size) : ∃ v, W.cell? ⟨g, k, none⟩ = some v := ⟨arr[k], by rw [cell_at h]; simp [hk]⟩
theorem put5 {W : World} {g : Nat} {arr : Array Value} {t : TypeId} (h : W.heap[g]? = some (.cells arr t (0, 0))) (o : Nat) (ho : o + 5 ≤ arr.size) (x : Fd) :
    ∃ arr', (((((W.setCell ⟨g, o, none⟩ (.string x.n)).setCell ⟨g, o + 1, none⟩ (.int .u8 x.k)).setCell ⟨g, o + 2, none⟩ (.int .i64 x.a)).setCell ⟨g, o + 3, none⟩ (.int .i64 x.o)).setCell ⟨g, o + 4, none⟩ (.int .i64 x.d)).heap[g]? = some (.cells arr' t (0, 0)) ∧ arr'.size = arr.size ∧ FCell (((((W.setCell ⟨g, o, none⟩ (.string x.n)).setCell ⟨g, o + 1, none⟩ (.int .u8 x.k)).setCell ⟨g, o + 2, none⟩ (.int .i64 x.a)).setCell ⟨g, o + 3, none⟩ (.int .i64 x.o)).setCell ⟨g, o + 4, none⟩ (.int .i64 x.d)) g o x ∧ ∀ k y, (k + 5 ≤ o ∨ o + 5 ≤ k) → FCell W g k y → FCell (((((W.setCell ⟨g, o, none⟩ (.string x.n)).setCell ⟨g, o + 1, none⟩ (.int .u8 x.k)).setCell ⟨g, o + 2, none⟩ (.int .i64 x.a)).setCell ⟨g, o + 3, none⟩ (.int .i64 x.o)).setCell ⟨g, o + 4, none⟩ (.int .i64 x.d)) g k y := by
  have h5 := setc_heap (j := o + 4) (.int .i64 x.d) (setc_heap (j := o + 3) (.int .i64 x.o) (setc_heap (j := o + 2) (.int .i64 x.a) (setc_heap (j := o + 1) (.int .u8 x.k) (setc_heap (j := o) (.string x.n) (h)))))
  refine ⟨_, h5, by simp, ⟨?_, ?_, ?_, ?_, ?_⟩, fun k y hk hy => ?_⟩
  · rw [cell_at h5]; simp [Array.getElem?_setIfInBounds]; omega
  · rw [cell_at h5]; simp [Array.getElem?_setIfInBounds]; omega
  · rw [cell_at h5]; simp [Array.getElem?_setIfInBounds]; omega
  · rw [cell_at h5]; simp [Array.getElem?_setIfInBounds]; omega
  · rw [cell_at h5]; simp [Array.getElem?_setIfInBounds]; omega
  · have e : ∀ i, i < 5 → (((((W.setCell ⟨g, o, none⟩ (.string x.n)).setCell ⟨g, o + 1, none⟩ (.int .u8 x.k)).setCell ⟨g, o + 2, none⟩ (.int .i64 x.a)).setCell ⟨g, o + 3, none⟩ (.int .i64 x.o)).setCell ⟨g, o + 4, none⟩ (.int .i64 x.d)).cell? ⟨g, k + i, none⟩ = W.cell? ⟨g, k + i, none⟩ := fun i hi => by
      rw [cell_at h5, cell_at h]
      simp only [Array.getElem?_setIfInBounds]
      rw [if_neg (by omega), if_neg (by omega), if_neg (by omega), if_neg (by omega), if_neg (by omega)]
    exact ⟨(e 0 (by omega)).trans hy.1, (e 1 (by omega)).trans hy.2.1, (e 2 (by omega)).trans hy.2.2.1, (e 3 (by omega)).trans hy.2.2.2.1, (e 4 (by omega)).trans hy.2.2.2.2⟩
set_option maxHeartbeats 8000000 in
theorem sevF_any (R N T : Nat) (s : ByteArray) (st : St) (hs : s.size ≤ 100000000) (n : Nat) (hn : n ≤ 255) (w : World) (hR : Rd R s st w) (hE : Env R N T w) :
    Calls Try.prog 38 #[.int .i64 n, .func (.func 35) #[] #[.pointer (some ⟨T, 0, none⟩), .pointer (some ⟨N, 0, none⟩)]] w fun e w' => e = .returned (.slice (some ⟨w.heap.size, 0, none⟩) n n) ∧ Flds w' (some ⟨w.heap.size, 0, none⟩) (sevD fldD n st).1 ∧ Rd R s (sevD fldD n st).2 w' ∧ RW R w w' ∧ w.heap.size < w'.heap.size := by
  have hRl := hR.lt
  obtain ⟨hNl, hTl⟩ := hE.lt
  obtain ⟨i48, hi, hz0, hz1, hz2⟩ := info_parts info48
  have hmk := run_makeSlice (P := Try.prog) w 40 48 i48 _ Try.underlying40 hi hz0 .i64 .i64 n n (by omega) (Int.le_refl _) (by rw [hz1]; omega) (by rw [hz2]; omega) (by omega)
  rw [hz1] at hmk
  simp only [Int.toNat_natCast] at hmk
  have hal : Bl w (w.alloc (.cells (madeCells (Value.agg #[.string ⟨#[]⟩, .int .u8 0, .int .i64 0, .int .i64 0, .int .i64 0]).cells (n * 5)) 48)) := (Bl.refl _).alloc _
  have hg0 := heap_new w (madeCells (Value.agg #[.string ⟨#[]⟩, .int .u8 0, .int .i64 0, .int .i64 0, .int .i64 0]).cells (n * 5)) 48
  have hz : (madeCells (Value.agg #[.string ⟨#[]⟩, .int .u8 0, .int .i64 0, .int .i64 0, .int .i64 0]).cells (n * 5)).size = n * 5 := size_madeCells _ _
  have hR0 := hR.gr hal
  have hE0 := hE.gr hal
  generalize hWa : (w.alloc (.cells (madeCells (Value.agg #[.string ⟨#[]⟩, .int .u8 0, .int .i64 0, .int .i64 0, .int .i64 0]).cells (n * 5)) 48)) = Wa at hmk hal hg0 hR0 hE0
  generalize (madeCells (Value.agg #[.string ⟨#[]⟩, .int .u8 0, .int .i64 0, .int .i64 0, .int .i64 0]).cells (n * 5)) = arr0 at hg0 hz
  clear hWa
  generalize hans : sevD fldD n st = ans
  replace hans : Hid (sevD fldD n st = ans) := hans
  go_enter Try.func38, Try.ntmps38
  go_wp2
  go_loopw [11] (fun v wr => ∃ (i : Nat) (xs : List Fd) (st' : St) (arr : Array Value), v = .int .i64 i ∧ i ≤ n ∧ xs.length = i ∧ ans = (xs ++ (sevD fldD (n - i) st').1, (sevD fldD (n - i) st').2) ∧ (∀ x ∈ xs, x.ok) ∧ wr.heap[w.heap.size]? = some (.cells arr 48 (0, 0)) ∧ arr.size = n * 5 ∧ (∀ j x, xs[j]? = some x → FCell wr w.heap.size (j * 5) x) ∧ Rd R s st' wr ∧ Env R N T wr ∧ RW R w wr) (fun v _ => n - (intOf v).toNat)
  case atStart => exact ⟨0, [], st, arr0, rfl, by omega, rfl, by rw [Nat.sub_zero, hans.out]; rfl, by simp, hg0, hz, by simp, hR0, hE0, RW.of hal (by omega)⟩
  case round =>
    clear hg0 hR0 hE0 hmk hz hal
    obtain ⟨i, xs, st', arr, rfl, hin, hxl, hA, hok, hg, hsz, hfc, hR1, hE1, hW1⟩ := hrel
    replace hA : Hid (ans = (xs ++ (sevD fldD (n - i) st').1, (sevD fldD (n - i) st').2)) := hA
    replace hxl : Hid (xs.length = i) := hxl
    by_cases h : i < n
    · have d : decide ((i : Int) < n) = true := by simp; omega
      have e9 : IntKind.i64.wrap ((i : Int) + 1) = (i : Int) + 1 := IntWalk.i64_in _ (by omega)
      have kf := field1_any R N T s st' hs wr hR1 hE1
      have hxok : (fldD st').1.ok := by
        refine ⟨?_, numM_bd _, ⟨by have := numM_bd (numM (txtD st').2).2; simp only [fldD]; omega, by have := numM_bd (numM (txtD st').2).2; simp only [fldD]; omega⟩, ⟨by have := numM_bd (numM (numM (txtD st').2).2).2; simp only [fldD]; omega, by have := numM_bd (numM (numM (txtD st').2).2).2; simp only [fldD]; omega⟩, ⟨by have := numM_bd (numM (numM (numM (txtD st').2).2).2).2; simp only [fldD]; omega, by have := numM_bd (numM (numM (numM (txtD st').2).2).2).2; simp only [fldD]; omega⟩⟩
        show (txtD st').1.toArray.size ≤ maxLen
        rw [List.size_toArray]
        have := take_len (numM st').2 (numM st').1.toNat
        have := numM_bd st'
        unfold txtD maxLen; omega
      have hnx : Hid (ans = ((xs ++ [(fldD st').1]) ++ (sevD fldD (n - (i + 1)) (fldD st').2).1, (sevD fldD (n - (i + 1)) (fldD st').2).2)) := by
        show ans = _
        rw [hA.out, show n - i = (n - (i + 1)) + 1 by omega, sevD]
        simp
      generalize (fldD st').2 = st2 at kf hnx
      generalize (fldD st').1 = x at kf hnx hxok
      unfold Fd.v at kf
      have hgw := hW1.bl.size
      go_upto_region 6 with (go_at_call 35; refine kf.mono ?_; rintro e w2 ⟨rfl, hR2, hw2⟩; have hg2 := hw2.heap hg (.inl (by omega)); obtain ⟨v0, y0⟩ := arr_cell (k := i * 5) hg2 (by omega); obtain ⟨v1, y1⟩ := arr_cell (k := i * 5 + 1) hg2 (by omega); obtain ⟨v2, y2⟩ := arr_cell (k := i * 5 + 2) hg2 (by omega); obtain ⟨v3, y3⟩ := arr_cell (k := i * 5 + 3) hg2 (by omega); obtain ⟨v4, y4⟩ := arr_cell (k := i * 5 + 4) hg2 (by omega); have f0 := froz_at (j := i * 5) hg2; have f1 := froz_at (j := i * 5 + 1) hg2; have f2 := froz_at (j := i * 5 + 2) hg2; have f3 := froz_at (j := i * 5 + 3) hg2; have f4 := froz_at (j := i * 5 + 4) hg2)
      obtain ⟨arr', hg5, hsz5, hx5, hk5⟩ := put5 hg2 (i * 5) (by omega) x
      have hR5 := (((((hR2.set (k := w.heap.size) (j := i * 5) (.string x.n) (by omega)).set (k := w.heap.size) (j := i * 5 + 1) (.int .u8 x.k) (by omega)).set (k := w.heap.size) (j := i * 5 + 2) (.int .i64 x.a) (by omega)).set (k := w.heap.size) (j := i * 5 + 3) (.int .i64 x.o) (by omega)).set (k := w.heap.size) (j := i * 5 + 4) (.int .i64 x.d) (by omega))
      have hE5 := ((((((hE1.rw hw2).set (k := w.heap.size) (j := i * 5) (.string x.n) (by omega) (by omega)).set (k := w.heap.size) (j := i * 5 + 1) (.int .u8 x.k) (by omega) (by omega)).set (k := w.heap.size) (j := i * 5 + 2) (.int .i64 x.a) (by omega) (by omega)).set (k := w.heap.size) (j := i * 5 + 3) (.int .i64 x.o) (by omega) (by omega)).set (k := w.heap.size) (j := i * 5 + 4) (.int .i64 x.d) (by omega) (by omega))
      have hW5 := ((((((hW1.trans hw2).set (k := w.heap.size) (j := i * 5) (.string x.n) (Nat.le_refl _) (by omega)).set (k := w.heap.size) (j := i * 5 + 1) (.int .u8 x.k) (Nat.le_refl _) (by omega)).set (k := w.heap.size) (j := i * 5 + 2) (.int .i64 x.a) (Nat.le_refl _) (by omega)).set (k := w.heap.size) (j := i * 5 + 3) (.int .i64 x.o) (Nat.le_refl _) (by omega)).set (k := w.heap.size) (j := i * 5 + 4) (.int .i64 x.d) (Nat.le_refl _) (by omega))
      generalize (((((w2.setCell ⟨w.heap.size, i * 5, none⟩ (.string x.n)).setCell ⟨w.heap.size, i * 5 + 1, none⟩ (.int .u8 x.k)).setCell ⟨w.heap.size, i * 5 + 2, none⟩ (.int .i64 x.a)).setCell ⟨w.heap.size, i * 5 + 3, none⟩ (.int .i64 x.o)).setCell ⟨w.heap.size, i * 5 + 4, none⟩ (.int .i64 x.d)) = W5 at hg5 hx5 hk5 hR5 hE5 hW5 ⊢
      have hfc5 : ∀ j y, (xs ++ [x])[j]? = some y → FCell W5 w.heap.size (j * 5) y := fun j y hy => by
        have hxl' := hxl.out
        by_cases hj : j < i
        · rw [List.getElem?_append_left (by omega)] at hy
          have h1 := hfc j y hy
          have h2 : FCell w2 w.heap.size (j * 5) y := by
            have e : ∀ k, w2.cell? ⟨w.heap.size, k, none⟩ = wr.cell? ⟨w.heap.size, k, none⟩ := fun k => by rw [cell_at hg2, cell_at hg]
            exact ⟨(e _).trans h1.1, (e _).trans h1.2.1, (e _).trans h1.2.2.1, (e _).trans h1.2.2.2.1, (e _).trans h1.2.2.2.2⟩
          exact hk5 _ y (.inl (by omega)) h2
        · have hj2 := (List.getElem?_eq_some_iff.1 hy).1
          simp at hj2
          obtain rfl : j = i := by omega
          rw [List.getElem?_append_right (by omega), hxl', Nat.sub_self] at hy
          simp at hy
          subst hy
          exact hx5
      clear y0 y1 y2 y3 y4 f0 f1 f2 f3 f4 hk5 hx5
      go_wp2
      exact ⟨⟨i + 1, xs ++ [x], st2, arr', by simp, by omega, by rw [List.length_append, hxl.out]; rfl, hnx.out, fun y hy => by
        rcases List.mem_append.1 hy with hy | hy
        · exact hok y hy
        · rw [List.mem_singleton.1 hy]; exact hxok, hg5, by omega, hfc5, hR5, hE5, hW5⟩, by simp [intOf]; omega⟩
    · have d : decide ((i : Int) < n) = false := by simp; omega
      obtain rfl : i = n := by omega
      rw [Nat.sub_self, sevD, List.append_nil] at hA
      go_wp2
      go_returns
      refine ⟨rfl, ?_, by rw [hA.out]; exact hR1, hW1, ch_lt hg⟩
      rw [hA.out]
      refine ⟨hok, by show xs.length ≤ maxLen; rw [hxl.out]; unfold maxLen; omega, .inr ⟨_, 0, rfl, ch_lt hg, fun j y hy => ?_⟩⟩
      rw [Nat.zero_add]
      exact hfc j y hy
end Go.Proofs.Ytmcjmdoeafhjpaa
