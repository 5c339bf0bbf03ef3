/- Towards the statements of package types (layer 10): Decode. -/
import Derived.Test.YtmcjmdoeafhjpaaTR
namespace Go.Proofs.Ytmcjmdoeafhjpaa
open Go.ChangeShapes Go.WideShapes Go.ChangeAt
open Go.RowKit Go.Shelf
set_option linter.unusedVariables false
set_option linter.unusedSimpArgs false
set_option maxRecDepth 20000
theorem info42 : (Try.prog.info? 42).map (fun i => (i.zero, i.size, i.bytes)) = some (some (.agg #[.string ⟨#[]⟩, .int .i64 0, .slice none 0 0]), 3, 48) := by kernel_rfl
theorem put3 {W : World} {g : Nat} {arr : Array Value} {ty : TypeId} (h : W.heap[g]? = some (.cells arr ty (0, 0))) (o : Nat) (ho : o + 3 ≤ arr.size) (t : Ty) :
    ∃ arr', (((W.setCell ⟨g, o, none⟩ (.string t.n)).setCell ⟨g, o + 1, none⟩ (.int .i64 t.s)).setCell ⟨g, o + 2, none⟩ (.slice t.p t.fs.length t.c)).heap[g]? = some (.cells arr' ty (0, 0)) ∧ arr'.size = arr.size ∧ TCell (((W.setCell ⟨g, o, none⟩ (.string t.n)).setCell ⟨g, o + 1, none⟩ (.int .i64 t.s)).setCell ⟨g, o + 2, none⟩ (.slice t.p t.fs.length t.c)) g o t ∧ ∀ k y, (k + 3 ≤ o ∨ o + 3 ≤ k) → TCell W g k y → TCell (((W.setCell ⟨g, o, none⟩ (.string t.n)).setCell ⟨g, o + 1, none⟩ (.int .i64 t.s)).setCell ⟨g, o + 2, none⟩ (.slice t.p t.fs.length t.c)) g k y := by
  have h5 := setc_heap (j := o + 2) (.slice t.p t.fs.length t.c) (setc_heap (j := o + 1) (.int .i64 t.s) (setc_heap (j := o) (.string t.n) (h)))
  refine ⟨_, h5, by simp, ⟨?_, ?_, ?_⟩, fun k y hk hy => ?_⟩
  · rw [cell_at h5]; simp [Array.getElem?_setIfInBounds]; omega
  · rw [cell_at h5]; simp [Array.getElem?_setIfInBounds]; omega
  · rw [cell_at h5]; simp [Array.getElem?_setIfInBounds]; omega
  · have e : ∀ i, i < 3 → (((W.setCell ⟨g, o, none⟩ (.string t.n)).setCell ⟨g, o + 1, none⟩ (.int .i64 t.s)).setCell ⟨g, o + 2, none⟩ (.slice t.p t.fs.length t.c)).cell? ⟨g, k + i, none⟩ = W.cell? ⟨g, k + i, none⟩ := fun i hi => by
      rw [cell_at h5, cell_at h]
      simp only [Array.getElem?_setIfInBounds]
      rw [if_neg (by omega), if_neg (by omega), if_neg (by omega)]
    exact ⟨(e 0 (by omega)).trans hy.1, (e 1 (by omega)).trans hy.2.1, (e 2 (by omega)).trans hy.2.2⟩
set_option maxHeartbeats 8000000 in
theorem sevT_any (R N T F : Nat) (s : ByteArray) (st : St) (hs : s.size ≤ 100000000) (n : Nat) (hn : n ≤ 255) (w : World) (hR : Rd R s st w) (hE : Env R N T w) (hF : w.heap[F]? = some (.cells #[.func (.func 35) #[] #[.pointer (some ⟨T, 0, none⟩), .pointer (some ⟨N, 0, none⟩)]] 74 (0, 0))) (hF4 : R + 4 < F) :
    Calls Try.prog 36 #[.int .i64 n, .func (.func 37) #[] #[.pointer (some ⟨T, 0, none⟩), .pointer (some ⟨N, 0, none⟩), .pointer (some ⟨F, 0, none⟩)]] w fun e w' => e = .returned (.slice (some ⟨w.heap.size, 0, none⟩) n n) ∧ (∃ L : List Ty, L.length = n ∧ L.map Ty.core = (sevD tyD n st).1 ∧ Tys w' (some ⟨w.heap.size, 0, none⟩) L) ∧ Rd R s (sevD tyD n st).2 w' ∧ RW R w w' := by
  have hRl := hR.lt
  obtain ⟨hNl, hTl⟩ := hE.lt
  have hFl := ch_lt hF
  obtain ⟨i42, hi, hz0, hz1, hz2⟩ := info_parts info42
  have hmk := run_makeSlice (P := Try.prog) w 22 42 i42 _ Try.underlying22 hi hz0 .i64 .i64 n n (by omega) (Int.le_refl _) (by rw [hz1]; omega) (by rw [hz2]; omega) (by omega)
  rw [hz1] at hmk
  simp only [Int.toNat_natCast] at hmk
  have hal : Bl w (w.alloc (.cells (madeCells (Value.agg #[.string ⟨#[]⟩, .int .i64 0, .slice none 0 0]).cells (n * 3)) 42)) := (Bl.refl _).alloc _
  have hg0 := heap_new w (madeCells (Value.agg #[.string ⟨#[]⟩, .int .i64 0, .slice none 0 0]).cells (n * 3)) 42
  have hz : (madeCells (Value.agg #[.string ⟨#[]⟩, .int .i64 0, .slice none 0 0]).cells (n * 3)).size = n * 3 := size_madeCells _ _
  have hR0 := hR.gr hal
  have hE0 := hE.gr hal
  have hF0 := it_keep (w := w) hF hal
  generalize hWa : (w.alloc (.cells (madeCells (Value.agg #[.string ⟨#[]⟩, .int .i64 0, .slice none 0 0]).cells (n * 3)) 42)) = Wa at hmk hal hg0 hR0 hE0 hF0
  generalize (madeCells (Value.agg #[.string ⟨#[]⟩, .int .i64 0, .slice none 0 0]).cells (n * 3)) = arr0 at hg0 hz
  clear hWa
  generalize hans : sevD tyD n st = ans
  replace hans : Hid (sevD tyD n st = ans) := hans
  go_enter Try.func36, Try.ntmps36
  go_wp2
  go_loopw [11] (fun v wr => ∃ (i : Nat) (xs : List Ty) (st' : St) (arr : Array Value), v = .int .i64 i ∧ i ≤ n ∧ xs.length = i ∧ ans = (xs.map Ty.core ++ (sevD tyD (n - i) st').1, (sevD tyD (n - i) st').2) ∧ (∀ x ∈ xs, Read (w.heap.size + 1) wr x) ∧ wr.heap[w.heap.size]? = some (.cells arr 42 (0, 0)) ∧ arr.size = n * 3 ∧ (∀ j x, xs[j]? = some x → TCell wr w.heap.size (j * 3) x) ∧ Rd R s st' wr ∧ Env R N T wr ∧ wr.heap[F]? = some (.cells #[.func (.func 35) #[] #[.pointer (some ⟨T, 0, none⟩), .pointer (some ⟨N, 0, none⟩)]] 74 (0, 0)) ∧ RW R w wr) (fun v _ => n - (intOf v).toNat)
  case atStart => exact ⟨0, [], st, arr0, rfl, by omega, rfl, by rw [Nat.sub_zero, hans.out]; rfl, by simp, hg0, hz, by simp, hR0, hE0, hF0, RW.of hal (by omega)⟩
  case round =>
    clear hg0 hR0 hE0 hF0 hmk hz hal
    obtain ⟨i, xs, st', arr, rfl, hin, hxl, hA, hok, hg, hsz, hfc, hR1, hE1, hF1, hW1⟩ := hrel
    replace hA : Hid (ans = (xs.map Ty.core ++ (sevD tyD (n - i) st').1, (sevD tyD (n - i) st').2)) := hA
    replace hxl : Hid (xs.length = i) := hxl
    by_cases h : i < n
    · have d : decide ((i : Int) < n) = true := by simp; omega
      have e9 : IntKind.i64.wrap ((i : Int) + 1) = (i : Int) + 1 := IntWalk.i64_in _ (by omega)
      have kf := type1_any R N T F s st' hs wr hR1 hE1 hF1 hF4
      have hnx : Hid (ans = ((xs.map Ty.core ++ [(tyD st').1]) ++ (sevD tyD (n - (i + 1)) (tyD st').2).1, (sevD tyD (n - (i + 1)) (tyD st').2).2)) := by
        show ans = _
        rw [hA.out, show n - i = (n - (i + 1)) + 1 by omega, sevD]
        simp
      generalize (tyD st').2 = st2 at kf hnx
      generalize (tyD st').1 = cr at kf hnx
      unfold Ty.v at kf
      have hgw := hW1.bl.size
      have hgl := ch_lt hg
      go_upto_region 6 with (go_at_call 37; refine kf.mono ?_; rintro e w2 ⟨t, rfl, hcr, hrd, hR2, hw2⟩; have hg2 := hw2.heap hg (.inl (by omega)); obtain ⟨v0, y0⟩ := arr_cell (k := i * 3) hg2 (by omega); obtain ⟨v1, y1⟩ := arr_cell (k := i * 3 + 1) hg2 (by omega); obtain ⟨v2, y2⟩ := arr_cell (k := i * 3 + 2) hg2 (by omega); have f0 := froz_at (j := i * 3) hg2; have f1 := froz_at (j := i * 3 + 1) hg2; have f2 := froz_at (j := i * 3 + 2) hg2)
      obtain ⟨arr', hg5, hsz5, hx5, hk5⟩ := put3 hg2 (i * 3) (by omega) t
      have hR5 := (((hR2.set (k := w.heap.size) (j := i * 3) (.string t.n) (by omega)).set (k := w.heap.size) (j := i * 3 + 1) (.int .i64 t.s) (by omega)).set (k := w.heap.size) (j := i * 3 + 2) (.slice t.p t.fs.length t.c) (by omega))
      have hE5 := ((((hE1.rw hw2).set (k := w.heap.size) (j := i * 3) (.string t.n) (by omega) (by omega)).set (k := w.heap.size) (j := i * 3 + 1) (.int .i64 t.s) (by omega) (by omega)).set (k := w.heap.size) (j := i * 3 + 2) (.slice t.p t.fs.length t.c) (by omega) (by omega))
      have hW5 := ((((hW1.trans hw2).set (k := w.heap.size) (j := i * 3) (.string t.n) (Nat.le_refl _) (by omega)).set (k := w.heap.size) (j := i * 3 + 1) (.int .i64 t.s) (Nat.le_refl _) (by omega)).set (k := w.heap.size) (j := i * 3 + 2) (.slice t.p t.fs.length t.c) (Nat.le_refl _) (by omega))
      have hF5 : (((w2.setCell ⟨w.heap.size, i * 3, none⟩ (.string t.n)).setCell ⟨w.heap.size, i * 3 + 1, none⟩ (.int .i64 t.s)).setCell ⟨w.heap.size, i * 3 + 2, none⟩ (.slice t.p t.fs.length t.c)).heap[F]? = _ := ((setc_other (k := w.heap.size) (i := F) _ (by omega)).trans ((setc_other (k := w.heap.size) (i := F) _ (by omega)).trans (setc_other (k := w.heap.size) (i := F) _ (by omega)))).trans (hw2.heap hF1 (.inl (by omega)))
      have hs5 : w2.heap.size ≤ (((w2.setCell ⟨w.heap.size, i * 3, none⟩ (.string t.n)).setCell ⟨w.heap.size, i * 3 + 1, none⟩ (.int .i64 t.s)).setCell ⟨w.heap.size, i * 3 + 2, none⟩ (.slice t.p t.fs.length t.c)).heap.size := by rw [setc_size, setc_size, setc_size]; omega
      have hoth : ∀ g, w.heap.size + 1 ≤ g → (((w2.setCell ⟨w.heap.size, i * 3, none⟩ (.string t.n)).setCell ⟨w.heap.size, i * 3 + 1, none⟩ (.int .i64 t.s)).setCell ⟨w.heap.size, i * 3 + 2, none⟩ (.slice t.p t.fs.length t.c)).heap[g]? = w2.heap[g]? := fun g hg => (setc_other (k := w.heap.size) (i := g) _ (by omega)).trans ((setc_other (k := w.heap.size) (i := g) _ (by omega)).trans (setc_other (k := w.heap.size) (i := g) _ (by omega)))
      have hs2 := hw2.bl.size
      have hrd5 : Read (w.heap.size + 1) (((w2.setCell ⟨w.heap.size, i * 3, none⟩ (.string t.n)).setCell ⟨w.heap.size, i * 3 + 1, none⟩ (.int .i64 t.s)).setCell ⟨w.heap.size, i * 3 + 2, none⟩ (.slice t.p t.fs.length t.c)) t := by
        obtain ⟨⟨g, q1, q2, q3⟩, q4⟩ := hrd
        exact Read.heap (G := w.heap.size + 1) ⟨⟨g, q1, by omega, q3⟩, q4⟩ (fun g hg _ => hoth g hg) hs5
      have hok5 : ∀ y ∈ xs, Read (w.heap.size + 1) (((w2.setCell ⟨w.heap.size, i * 3, none⟩ (.string t.n)).setCell ⟨w.heap.size, i * 3 + 1, none⟩ (.int .i64 t.s)).setCell ⟨w.heap.size, i * 3 + 2, none⟩ (.slice t.p t.fs.length t.c)) y := fun y hy => (hok y hy).heap (fun g hg hl => (hoth g hg).trans (hw2.ok g (by omega) hl)) (by omega)
      generalize (((w2.setCell ⟨w.heap.size, i * 3, none⟩ (.string t.n)).setCell ⟨w.heap.size, i * 3 + 1, none⟩ (.int .i64 t.s)).setCell ⟨w.heap.size, i * 3 + 2, none⟩ (.slice t.p t.fs.length t.c)) = W5 at hg5 hx5 hk5 hR5 hE5 hW5 hF5 hs5 hoth hrd5 hok5 ⊢
      have hfc5 : ∀ j y, (xs ++ [t])[j]? = some y → TCell W5 w.heap.size (j * 3) y := fun j y hy => by
        have hxl' := hxl.out
        by_cases hj : j < i
        · rw [List.getElem?_append_left (by omega)] at hy
          have h1 := hfc j y hy
          have h2 : TCell w2 w.heap.size (j * 3) y := by
            have e : ∀ k, w2.cell? ⟨w.heap.size, k, none⟩ = wr.cell? ⟨w.heap.size, k, none⟩ := fun k => by rw [cell_at hg2, cell_at hg]
            exact ⟨(e _).trans h1.1, (e _).trans h1.2.1, (e _).trans h1.2.2⟩
          exact hk5 _ y (.inl (by omega)) h2
        · have hj2 := (List.getElem?_eq_some_iff.1 hy).1
          simp at hj2
          obtain rfl : j = i := by omega
          rw [List.getElem?_append_right (by omega), hxl', Nat.sub_self] at hy
          simp at hy
          subst hy
          exact hx5
      replace hcr : Hid (t.core = cr) := hcr
      clear y0 y1 y2 f0 f1 f2 hk5 hx5
      go_wp2
      exact ⟨⟨i + 1, xs ++ [t], st2, arr', by simp, by omega, by rw [List.length_append, hxl.out]; rfl, by rw [hnx.out, List.map_append, List.map_singleton, hcr.out], fun y hy => by
        rcases List.mem_append.1 hy with hy | hy
        · exact hok5 y hy
        · rw [List.mem_singleton.1 hy]; exact hrd5, hg5, by omega, hfc5, hR5, hE5, hF5, hW5⟩, by simp [intOf]; omega⟩
    · have d : decide ((i : Int) < n) = false := by simp; omega
      obtain rfl : i = n := by omega
      rw [Nat.sub_self, sevD, List.append_nil] at hA
      go_wp2
      go_returns
      refine ⟨rfl, ⟨xs, hxl.out, by rw [hA.out], ?_⟩, by rw [hA.out]; exact hR1, hW1⟩
      refine ⟨fun t ht => (hok t ht).ok, by rw [hxl.out]; unfold maxLen; omega, .inr ⟨_, 0, rfl, ch_lt hg, fun j y hy => ?_⟩⟩
      rw [Nat.zero_add]
      exact hfc j y hy
def decM (b : List UInt8) : Option (List Core) := if (sevD tyD (numM (some b)).1.toNat (numM (some b)).2).2 = some [] then some (sevD tyD (numM (some b)).1.toNat (numM (some b)).2).1 else none
def DecP (o : Option (List Core)) (e : Ending) (w' : World) : Prop := (o = none → e = .returned (.tuple #[.slice none 0 0, .int .i64 8])) ∧ ∀ l, o = some l → ∃ (p : Option Addr) (L : List Ty) (c : Nat), e = .returned (.tuple #[.slice p L.length c, .int .i64 0]) ∧ Tys w' p L ∧ L.length ≤ c ∧ c ≤ maxLen ∧ L.map Ty.core = l
theorem alloc3 (w : World) (a b c : Obj) : (((w.alloc a).alloc b).alloc c).heap[w.heap.size]? = some a ∧ (((w.alloc a).alloc b).alloc c).heap[w.heap.size + 1]? = some b ∧ (((w.alloc a).alloc b).alloc c).heap[w.heap.size + 2]? = some c := by
  have n : ∀ (W : World) (o : Obj), (W.alloc o).heap[W.heap.size]? = some o := fun W o => by
    show (W.heap.push _)[W.heap.size]? = _
    simp
  have s1 := size_new w a
  have s2 := size_new (w.alloc a) b
  refine ⟨?_, ?_, ?_⟩
  · rw [heap_old _ c (by omega), heap_old _ b (by omega)]; exact n w a
  · rw [heap_old _ c (by omega)]; have := n (w.alloc a) b; rw [s1] at this; exact this
  · have := n ((w.alloc a).alloc b) c; rw [s2, s1] at this; exact this
set_option maxHeartbeats 8000000 in
theorem decode_any (s : ByteArray) (hs : s.size ≤ 100000000) (w : World) : Calls Try.prog 12 #[.string s] w fun e w' => DecP (decM s.data.toList) e w' ∧ Bl w w' := by
  have kr := reader_any s w
  have bd := numM_bd (some s.data.toList)
  unfold decM
  have kn := fun W (h : Rd w.heap.size s (some s.data.toList) W) => number_any' w.heap.size s (some s.data.toList) hs W h
  generalize (numM (some s.data.toList)).1 = v at kn bd ⊢
  generalize (numM (some s.data.toList)).2 = st1 at kn ⊢
  obtain ⟨n, rfl⟩ := Int.eq_ofNat_of_zero_le bd.1
  simp only [Int.toNat_natCast]
  have ks := fun N T F W h1 h2 h3 h4 => sevT_any w.heap.size N T F s st1 hs n (by omega) W h1 h2 h3 h4
  generalize sevD tyD n st1 = sv at ks ⊢
  have kw := fun W (h : Rd w.heap.size s sv.2 W) => whole_any w.heap.size s sv.2 hs W h
  go_enter Try.func12, Try.ntmps12
  go_upto_region 3 with (go_at_call 34; refine kr.mono ?_; rintro e w1 ⟨rfl, hR1, hb1⟩)
  have hRl := hR1.lt
  obtain ⟨q0, q1, q2⟩ := alloc3 w1 (.cells #[.func (.func 65) #[] #[.pointer (some ⟨w.heap.size + 4, 0, none⟩)]] 71) (.cells #[.func (.func 67) #[] #[.pointer (some ⟨w.heap.size + 4, 0, none⟩), .pointer (some ⟨w.heap.size + 1, 0, none⟩)]] 69) (.cells #[.func (.func 35) #[] #[.pointer (some ⟨w1.heap.size + 1, 0, none⟩), .pointer (some ⟨w1.heap.size, 0, none⟩)]] 74)
  have hal : Bl w1 (((w1.alloc (.cells #[.func (.func 65) #[] #[.pointer (some ⟨w.heap.size + 4, 0, none⟩)]] 71)).alloc (.cells #[.func (.func 67) #[] #[.pointer (some ⟨w.heap.size + 4, 0, none⟩), .pointer (some ⟨w.heap.size + 1, 0, none⟩)]] 69)).alloc (.cells #[.func (.func 35) #[] #[.pointer (some ⟨w1.heap.size + 1, 0, none⟩), .pointer (some ⟨w1.heap.size, 0, none⟩)]] 74)) := (((Bl.refl _).alloc _).alloc _).alloc _
  have hs3 : w1.heap.size + 2 < (((w1.alloc (.cells #[.func (.func 65) #[] #[.pointer (some ⟨w.heap.size + 4, 0, none⟩)]] 71)).alloc (.cells #[.func (.func 67) #[] #[.pointer (some ⟨w.heap.size + 4, 0, none⟩), .pointer (some ⟨w.heap.size + 1, 0, none⟩)]] 69)).alloc (.cells #[.func (.func 35) #[] #[.pointer (some ⟨w1.heap.size + 1, 0, none⟩), .pointer (some ⟨w1.heap.size, 0, none⟩)]] 74)).heap.size := by rw [size_new, size_new, size_new]; omega
  have hR4 := hR1.gr hal
  have hb4 := hb1.trans hal
  generalize (((w1.alloc (.cells #[.func (.func 65) #[] #[.pointer (some ⟨w.heap.size + 4, 0, none⟩)]] 71)).alloc (.cells #[.func (.func 67) #[] #[.pointer (some ⟨w.heap.size + 4, 0, none⟩), .pointer (some ⟨w.heap.size + 1, 0, none⟩)]] 69)).alloc (.cells #[.func (.func 35) #[] #[.pointer (some ⟨w1.heap.size + 1, 0, none⟩), .pointer (some ⟨w1.heap.size, 0, none⟩)]] 74)) = W at q0 q1 q2 hR4 hb4 hs3 ⊢
  have hE4 : Env w.heap.size w1.heap.size (w1.heap.size + 1) W := ⟨q0, q1, hRl, by omega⟩
  generalize hNn : w1.heap.size = N at q0 q1 q2 hE4 hRl hs3 ⊢
  clear hNn hR1 hb1 hal kr
  have gN : W.cell? ⟨N, 0, none⟩ = some (.func (.func 65) #[] #[.pointer (some ⟨w.heap.size + 4, 0, none⟩)]) := by rw [cell_at q0]; rfl
  have k1 := kn _ hR4
  go_upto_region 4 with first | (go_at_call 65; refine k1.mono ?_; rintro e w5 ⟨rfl, hR5, hw5⟩) | (go_at_call 36; refine (ks N (N + 1) (N + 2) _ hR5 (hE4.rw hw5) (hw5.heap q2 (.inl (by omega))) (by omega)).mono ?_; rintro e w6 ⟨rfl, ⟨L, hLn, hLc, hLt⟩, hR6, hw6⟩)
  have k2 := kw _ hR6
  have hbF : Bl w w6 := hb4.trans' (hw5.bl.trans hw6.bl) (by omega)
  have hs6 := hw6.bl.size
  by_cases hz : sv.2 = some []
  · rw [decide_eq_true hz] at k2
    go_wp2_with (go_at_call 69; refine k2.mono ?_; rintro e w7 ⟨rfl, hw⟩; rw [hw]; clear hw)
    go_returns
    refine ⟨⟨fun h => ?_, fun l h => ?_⟩, hbF⟩
    · cases h
    · cases h
      subst hLn
      exact ⟨_, L, _, rfl, hLt, Nat.le_refl _, hLt.len, hLc⟩
  · rw [decide_eq_false hz] at k2
    go_wp2_with (go_at_call 69; refine k2.mono ?_; rintro e w7 ⟨rfl, hw⟩; rw [hw]; clear hw)
    go_returns
    refine ⟨⟨fun h => rfl, fun l h => ?_⟩, hbF⟩
    cases h
end Go.Proofs.Ytmcjmdoeafhjpaa
