/- Towards the statements of package name (layer 9): Words. -/
import Derived.Test.YtkndkniimlckeaaNW
namespace Go.Proofs.Ytkndkniimlckeaa
open Go.ChangeShapes Go.WideShapes Go.ChangeAt Go.RowKit
set_option linter.unusedVariables false
set_option linter.unusedSimpArgs false
set_option maxRecDepth 20000
/-- A row of texts that lies at v. -/
def SRow (w : World) (v : Value) (X : List ByteArray) : Prop := (v = .slice none 0 0 ∧ X = []) ∨ ∃ g cap, v = .slice (some ⟨g, 0, none⟩) X.length cap ∧ g < w.heap.size ∧ ∀ (j : Nat) (x : ByteArray), X[j]? = some x → w.cell? ⟨g, j, none⟩ = some (.string x)
theorem SRow.gr {w w' : World} {v : Value} {X : List ByteArray} (h : SRow w v X) (hb : Bl w w') : SRow w' v X := by
  rcases h with h | ⟨g, cap, e, hg, hc⟩
  · exact .inl h
  · exact .inr ⟨g, cap, e, Nat.lt_of_lt_of_le hg hb.size, fun j x hx => (hb.cell (p := ⟨g, j, none⟩) hg).trans (hc j x hx)⟩
theorem SRow.shape {w : World} {v : Value} {X : List ByteArray} (h : SRow w v X) : ∃ p cap, v = .slice p X.length cap := by
  rcases h with ⟨rfl, rfl⟩ | ⟨g, cap, e, _⟩
  · exact ⟨none, 0, rfl⟩
  · exact ⟨_, _, e⟩
theorem srow_of {w : World} {base : Nat} {v : Value} {X : List ByteArray} (h : w.ownsRow base 9 1 v X.length (X.map .string)) : SRow w v X := by
  rcases h.2 with ⟨rfl, h0⟩ | ⟨g, cap, cur, rfl, hb, hg, hn, _, hs, ht⟩
  · exact .inl ⟨rfl, List.eq_nil_of_length_eq_zero h0⟩
  · refine .inr ⟨g, cap, rfl, ch_lt hg, fun j x hx => ?_⟩
    refine cell_of hg ?_
    have h1 : (X.map Value.string)[j]? = some (.string x) := by simp [hx]
    rw [← ht, List.getElem?_take] at h1
    split at h1
    · simpa using h1
    · cases h1
theorem len_of {l : List Nat} {r w : Nat} (h : Rune l r w) : Lib.runeLen r = w := by
  have hr := h.range
  unfold Lib.runeLen
  cases h <;> (repeat' split) <;> simp_all <;> omega
theorem words_step (C D cur : List (Nat × List Nat)) (c) (X : List ByteArray) (x : ByteArray) (hx : bt x = cur.flatMap (·.2)) (h : wordsC C [] = X.map bt ++ wordsC (c :: D) cur) (hc : (letterB c.1 || digitB c.1) = false) (hm : mayM (bt x) = mayC cur) : wordsC C [] = (if mayM (bt x) then X ++ [x] else X).map bt ++ wordsC D [] := by
  rw [h, wordsC, hc, endC, hm, hx.symm]
  cases mayC cur <;> simp
theorem KeepN.it {W : World} {base b1 b3 b4 k p : Nat} {s s' : ByteArray} {frm : Nat} {vc v : Value} {X : List ByteArray} (h : KeepN W base b1 b3 b4 s frm vc v X) (hk : k < base) (h1 : b1 ≠ k) (h3 : b3 ≠ k) (h4 : b4 ≠ k) : KeepN (itS W k s' p) base b1 b3 b4 s frm vc v X := by
  refine ⟨(itS_other h1 _ _).trans h.t, (itS_other h3 _ _).trans h.n, (itS_other h4 _ _).trans h.f, ⟨h.row.1, ?_⟩, h.lt1, h.lt3, h.lt4, by rw [itS_size]; exact h.le, h.ne34, h.ne13, h.ne14⟩
  rcases h.row.2 with e | ⟨g, cap, cur, e, hg, hh, r⟩
  · exact .inl e
  · exact .inr ⟨g, cap, cur, e, hg, (itS_other (by omega) _ _).trans hh, r⟩
theorem KeepN.frm {W : World} {base b1 b3 b4 : Nat} {s : ByteArray} {frm : Nat} {vc v : Value} {X : List ByteArray} (h : KeepN W base b1 b3 b4 s frm vc v X) (f' : Nat) : KeepN (W.setCell ⟨b4, 0, none⟩ (.int .i64 f')) base b1 b3 b4 s f' vc v X := by
  have hs2 : ∀ k, k ≠ b4 → (W.setCell ⟨b4, 0, none⟩ (.int .i64 f')).heap[k]? = W.heap[k]? := fun k hk => Below.heap_setCell W ⟨b4, 0, none⟩ _ k hk
  refine ⟨(hs2 _ h.ne14).trans h.t, (hs2 _ h.ne34).trans h.n, heap_set _ h.f, ⟨h.row.1, ?_⟩, h.lt1, h.lt3, h.lt4, by have := h.le; simpa [World.setCell] using this, h.ne34, h.ne13, h.ne14⟩
  rcases h.row.2 with e | ⟨g, cap, cur, e, hg, hh, r⟩
  · exact .inl e
  · exact .inr ⟨g, cap, cur, e, hg, (hs2 g (by have := h.lt4; omega)).trans hh, r⟩
theorem ext_more (s : ByteArray) (f p q : Nat) (h1 : f ≤ p) (h2 : p ≤ q) : bt (s.extract f q) = bt (s.extract f p) ++ ((bt s).drop p).take (q - p) := by
  rw [bt_ext, bt_ext]
  have : (bt s).drop p = ((bt s).drop f).drop (p - f) := by rw [List.drop_drop]; congr 1; omega
  rw [this, show q - f = (p - f) + (q - p) by omega, List.take_add]
theorem ext_none (s : ByteArray) (p : Nat) : bt (s.extract p p) = [] := by rw [bt_ext, Nat.sub_self, List.take_zero]
set_option maxHeartbeats 4000000 in
theorem words_any (s : ByteArray) (hs : s.size ≤ 1048576) (w : World) : Calls Try.prog 15 #[.string s] w fun e w' => ∃ v X, e = .returned v ∧ SRow w' v X ∧ X.map bt = wordsM (bt s) ∧ Bl w w' := by
  have hva := fun W => valid_any s (by omega) W
  have hB0 : Bl w (w.alloc (.cells #[.string s] 9)) := (Bl.refl w).alloc _
  cases hc : ch (bt s) with
  | none =>
    have e2 : wordsM (bt s) = [] := by rw [wordsM, hc]
    rw [hc] at hva
    rw [e2]
    go_enter Try.func15, Try.ntmps15
    go_wp2_with (go_at_call 26; refine (hva _).mono ?_; rintro e w' ⟨rfl, hb⟩)
    go_returns
    exact ⟨_, [], rfl, .inl ⟨rfl, rfl⟩, rfl, hB0.trans hb⟩
  | some C =>
    have e2 : wordsM (bt s) = wordsC C [] := by rw [wordsM, hc]
    rw [hc] at hva
    have hT : Txt (bt s) C := (ch_iff (bt_lt s)).1 hc
    rw [e2]
    clear hc e2
    go_enter Try.func15, Try.ntmps15
    go_upto_region 4 with (go_at_call 26; refine (hva _).mono ?_; rintro e w1 ⟨rfl, hb1⟩)
    have hb := hB0.trans hb1
    have hA1 := it_keep (w := w) (heap_new w (.cells #[.string s] 9)) hb1
    have hlt1 : w.heap.size < w1.heap.size := ch_lt hA1
    go_upto_region 6 with fail
    have ht : ((w1.alloc (.cells #[.slice none 0 0] 26)).alloc (.cells #[.int .i64 0] 3)).heap[w.heap.size]? = some (.cells #[.string s] 9) := (Below.heap_alloc _ _ _ (by simp; omega)).trans ((Below.heap_alloc _ _ _ hlt1).trans hA1)
    have hn : ((w1.alloc (.cells #[.slice none 0 0] 26)).alloc (.cells #[.int .i64 0] 3)).heap[w1.heap.size]? = some (.cells #[.slice none 0 0] 26) := (Below.heap_alloc _ _ _ (by simp)).trans (heap_new _ _)
    have hf : ((w1.alloc (.cells #[.slice none 0 0] 26)).alloc (.cells #[.int .i64 0] 3)).heap[w1.heap.size + 1]? = some (.cells #[.int .i64 0] 3) := by have := heap_new (w1.alloc (.cells #[.slice none 0 0] 26)) (.cells #[.int .i64 0] 3); simpa using this
    have hbW : Bl w ((w1.alloc (.cells #[.slice none 0 0] 26)).alloc (.cells #[.int .i64 0] 3)) := (hb.alloc _).alloc _
    have hsz : ((w1.alloc (.cells #[.slice none 0 0] 26)).alloc (.cells #[.int .i64 0] 3)).heap.size = w1.heap.size + 2 := by simp
    generalize ((w1.alloc (.cells #[.slice none 0 0] 26)).alloc (.cells #[.int .i64 0] 3)) = W2 at ht hn hf hbW hsz ⊢
    generalize hb3 : w1.heap.size = b3 at hlt1 hn hf hsz ⊢
    generalize hb4 : b3 + 1 = b4 at hf ⊢
    have hw1 : w.heap.size ≤ w.heap.size := Nat.le_refl _
    generalize hb1' : w.heap.size = b1 at hlt1 ht ⊢
    have hb1le : w.heap.size ≤ b1 := Nat.le_of_eq hb1'
    have hlt4 : b3 < b4 := by omega
    have hszi : b4 < W2.heap.size := by omega
    clear hb1' hb4 hb3 hsz hA1 hB0 hb hb1
    have c1 : W2.cell? ⟨b1, 0, none⟩ = some (.string s) := cell_of ht (j := 0) rfl
    go_upto_region 7 with fail
    have hkB : W2.heap.size < W2.heap.size + 1 := Nat.lt_succ_self _
    have hk0 : (W2.iter s 0).heap[W2.heap.size]? = some (.stringIter s 0) := W2.iter_heap s 0
    have hbi : Bl W2 (W2.iter s 0) := (Bl.refl W2).alloc _
    have hK0 : Keep (W2.iter s 0) (W2.heap.size + 1) b1 b3 b4 s 0 (.slice none 0 0) [] := ⟨it_keep (w := w) ht hbi, it_keep (w := w) hn hbi, it_keep (w := w) hf hbi, World.ownsRow_nil _ _ _ _, by omega, by omega, by omega, Nat.le_of_eq (by simp [World.iter]), by omega, by omega, by omega⟩
    have hb0 : Bl w (W2.iter s 0) := hbW.trans hbi
    generalize (W2.iter s 0) = W3 at hk0 hK0 hb0 ⊢
    generalize hkk : W2.heap.size = k at hk0 hK0 hkB hszi ⊢
    have hbk : b1 ≠ k ∧ b3 ≠ k ∧ b4 ≠ k ∧ w.heap.size ≤ k ∧ w.heap.size ≤ b3 ∧ w.heap.size ≤ b4 := ⟨by omega, by omega, by omega, by omega, by omega, by omega⟩
    obtain ⟨hk1, hk3, hk4, hkw, hw3, hw4⟩ := hbk
    clear c1 ht hn hf hbi hbW hva hw1 hkk hszi
    have hN : ∀ n : Nat, n = s.size → (n : Int) = s.size := fun n h => by rw [h]
    go_loopw [6] (fun _ wr => ∃ (pos frm : Nat) (v : Value) (cur D : List (Nat × List Nat)) (X : List ByteArray), wr.heap[k]? = some (.stringIter s pos) ∧ pos ≤ s.size ∧ Keep wr (k + 1) b1 b3 b4 s frm v X ∧ frm ≤ pos ∧ X.length ≤ frm ∧ Txt ((bt s).drop pos) D ∧ Txt (bt (s.extract frm pos)) cur ∧ wordsC C [] = X.map bt ++ wordsC D cur ∧ Bl w wr) (fun _ wr => s.size - itP wr k)
    case atStart => exact ⟨0, 0, _, [], C, [], hk0, Nat.zero_le _, hK0, Nat.le_refl _, Nat.le_refl _, hT, by rw [ext_none]; exact .nil, rfl, hb0⟩
    case round =>
      obtain ⟨pos, frm, v, cur, D, X, hk, hp1, hK, hfp, hXf, hD, hcur, hwd, hb⟩ := hrel
      replace hwd : Hid (wordsC C [] = X.map bt ++ wordsC D cur) := hwd
      by_cases hp : pos < s.size
      · have hnx := fun ty => next_on (P := Try.prog) hk hp ty
        obtain ⟨hw1, hw2⟩ := dec_width s hp
        obtain ⟨D', rfl, hD', ho⟩ := hD.step (bt_drop_ne hp)
        rw [List.drop_drop] at hD'
        have hru := rune_of (bt_drop_ne hp) (bt_drop_lt s pos) ho
        have hlen := len_of hru
        have hone : Txt (((bt s).drop pos).take (dec ((bt s).drop pos)).2) [((dec ((bt s).drop pos)).1, ((bt s).drop pos).take (dec ((bt s).drop pos)).2)] := Txt.one (by
          have := hru.take
          have hl := hru.width.2.2
          rwa [List.length_take, Nat.min_eq_left hl])
        have hext := ext_more s frm pos (pos + (dec ((bt s).drop pos)).2) hfp (by omega)
        rw [Nat.add_sub_cancel_left] at hext
        have hk' := itS_heap hk s (pos + (dec ((bt s).drop pos)).2)
        have hb' := itS_below hb hkw s (pos + (dec ((bt s).drop pos)).2)
        have hK' := hK.it (s' := s) (p := pos + (dec ((bt s).drop pos)).2) hkB hk1 hk3 hk4
        generalize ((bt s).drop pos).take (dec ((bt s).drop pos)).2 = pc at hD hwd hone hext
        have hru' : True := trivial
        generalize (dec ((bt s).drop pos)).1 = r at hnx hD hwd hlen hone hru
        have hlen' : (pos : Int) + Lib.runeLen r = ((pos + (dec ((bt s).drop pos)).2 : Nat) : Int) := by rw [hlen]; omega
        generalize hP : pos + (dec ((bt s).drop pos)).2 = pos' at hk' hb' hnx hw2 hD' hK' hext hlen'
        have hP' : pos < pos' := by omega
        generalize hW : itS (wr) k s pos' = W1 at hnx hk' hb' hK'
        clear hW hP hw1 ho hlen hru
        have hl := fun W => letter_any r W
        have hd := fun W => digit_any r W
        have hrl := fun W => Try.utf8_RuneLen r W
        have e9 : IntKind.i64.wrap ((pos : Int) + Lib.runeLen r) = (pos' : Int) := by rw [hlen']; exact IntWalk.i64_in _ (by omega)
        cases hq : (letterB (r : Int) || digitB (r : Int)) with
        | true =>
          have hnew : Hid (wordsC C [] = X.map bt ++ wordsC D' (cur ++ [(r, pc)])) := by
            have h := hwd.out
            rw [wordsC, if_pos hq] at h
            exact h
          have hcur' : Txt (bt (s.extract frm pos')) (cur ++ [(r, pc)]) := by rw [hext]; exact hcur.app hone
          replace hq : Hid ((letterB (r : Int) || digitB (r : Int)) = true) := hq
          replace hlen' : Hid ((pos : Int) + Lib.runeLen r = pos') := hlen'
          cases h1 : letterB (r : Int) with
          | true =>
            rw [h1] at hl
            go_wp2_with (first | (go_at_call 17; refine (hl _).mono ?_; rintro e w2 ⟨rfl, hb2⟩) | (go_at_call 22; refine (hd _).mono ?_; rintro e w3 ⟨rfl, rfl⟩))
            exact ⟨⟨pos', frm, v, _, D', X, it_keep (w := w) hk' hb2, hw2, hK'.gr hb2, by omega, hXf, hD', hcur', hnew.out, hb'.trans hb2⟩, by rw [itP_eq hk, itP_eq (it_keep (w := w) hk' hb2)]; omega⟩
          | false =>
            have h2 : digitB (r : Int) = true := by have := hq.out; rw [h1] at this; simpa using this
            rw [h1] at hl
            rw [h2] at hd
            go_wp2_with (first | (go_at_call 17; refine (hl _).mono ?_; rintro e w2 ⟨rfl, hb2⟩) | (go_at_call 22; refine (hd _).mono ?_; rintro e w3 ⟨rfl, rfl⟩))
            exact ⟨⟨pos', frm, v, _, D', X, it_keep (w := w) hk' hb2, hw2, hK'.gr hb2, by omega, hXf, hD', hcur', hnew.out, hb'.trans hb2⟩, by rw [itP_eq hk, itP_eq (it_keep (w := w) hk' hb2)]; omega⟩
        | false =>
          have h1 : letterB (r : Int) = false := by simp at hq; exact hq.1
          have h2 : digitB (r : Int) = false := by simp at hq; exact hq.2
          have hnew : Hid (wordsC C [] = (if mayM (bt (s.extract frm pos)) then X ++ [s.extract frm pos] else X).map bt ++ wordsC D' []) := words_step C D' cur (r, pc) X _ hcur.bytes hwd.out hq hcur.mayM
          rw [h1] at hl
          rw [h2] at hd
          have hXl : (if mayM (bt (s.extract frm pos)) then X ++ [s.extract frm pos] else X).length ≤ pos' := by split <;> (try simp) <;> omega
          generalize hXX : (if mayM (bt (s.extract frm pos)) then X ++ [s.extract frm pos] else X) = X' at hnew hXl
          clear hq h1 h2 hcur hwd
          replace hlen' : Hid ((pos : Int) + Lib.runeLen r = pos') := hlen'
          go_upto_region 10 with (first | (go_at_call 17; refine (hl _).mono ?_; rintro e w2 ⟨rfl, hb2⟩) | (go_at_call 22; refine (hd _).mono ?_; rintro e w3 ⟨rfl, rfl⟩))
          have hK2 := hK'.gr hb2
          have hk2 := it_keep (w := w) hk' hb2
          have ke := end_any (k + 1) b1 b3 b4 s frm pos v X _ hK2 hfp hp1 hs (by omega)
          rw [hXX] at ke
          have hb2' := hb'.trans hb2
          clear hXX hl hd hK hK' hk' hnx hb'
          go_wp2_with (first | (go_at_call 27; refine ke.mono ?_; rintro e we ⟨rfl, v', hKe, hbe, hbk⟩; have c4 : we.cell? ⟨b4, 0, none⟩ = some (.int .i64 frm) := cell_of hKe.f (j := 0) rfl; have f4 := frozen_of hKe.f 0) | (go_at_call 29; refine (hrl _).mono ?_; rintro e wq ⟨rfl, rfl⟩))
          have hit : (wq.setCell ⟨b4, 0, none⟩ (.int .i64 pos')).heap[k]? = some (.stringIter s pos') := (Below.heap_setCell _ ⟨b4, 0, none⟩ _ k (Ne.symm hk4)).trans ((hbk k hkB (Ne.symm hk3)).trans hk2)
          exact ⟨⟨pos', pos', v', [], D', X', hit, hw2, hKe.frm pos', Nat.le_refl _, hXl, hD', by rw [ext_none]; exact .nil, hnew.out, (Below.trans hb2' (hbe.mono hw3)).setCell hw4 _⟩, by rw [itP_eq hk, itP_eq hit]; omega⟩
      · have hnx := fun ty => next_over (P := Try.prog) hk hp ty
        obtain rfl : pos = s.size := by omega
        rw [List.drop_eq_nil_of_le (by rw [bt_len]; exact Nat.le_refl _)] at hD
        obtain rfl := hD.empty
        have hnew : Hid (wordsC C [] = (if mayM (bt (s.extract frm s.size)) then X ++ [s.extract frm s.size] else X).map bt) := by
          have h := hwd.out
          rw [wordsC, endC, ← hcur.mayM, ← hcur.bytes] at h
          show wordsC C [] = _
          rw [h]
          split <;> simp
        have ke := end_any (k + 1) b1 b3 b4 s frm s.size v X wr hK hfp hp1 hs (by omega)
        generalize (if mayM (bt (s.extract frm s.size)) then X ++ [s.extract frm s.size] else X) = X' at hnew ke
        have c1 : wr.cell? ⟨b1, 0, none⟩ = some (.string s) := cell_of hK.t (j := 0) rfl
        clear hwd
        go_wp2_with (first | (go_at_call 27; refine ke.mono ?_; rintro e we ⟨rfl, v', hKe, hbe, hbk⟩; have c3 : we.cell? ⟨b3, 0, none⟩ = some v' := cell_of hKe.n (j := 0) rfl))
        go_returns
        exact ⟨v', X', rfl, srow_of hKe.row, hnew.out.symm, Below.trans hb (hbe.mono hw3)⟩
end Go.Proofs.Ytkndkniimlckeaa
