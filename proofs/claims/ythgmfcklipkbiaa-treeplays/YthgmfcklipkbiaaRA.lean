/- Towards ListPlays: the document's list in memory; At, End, Cut. -/
import Derived.Test.YthgmfcklipkbiaaTP
import Derived.Laws.AppendOwnNone
namespace Go.Proofs.Ythgmfcklipkbiaa
open Go.ChangeShapes Go.WideShapes Go.ChangeAt Go.RowKit
set_option linter.unusedVariables false
set_option linter.unusedSimpArgs false
set_option maxRecDepth 20000
def valOf : Value → Int
  | .int _ n => n
  | _ => 0
/-- The document's list at block r. -/
structure Rl (w : World) (B r : Nat) (X : List HKey) (v : Value) : Prop where
  cells : w.heap[r]? = some (.cells #[v] 31 (0, 0))
  rB : B ≤ r
  row : w.ownsRow B 34 2 v X.length (hCells X)
  len : X.length ≤ 1000
theorem Rl.keep {w w' : World} {B r : Nat} {X : List HKey} {v : Value} (h : Rl w B r X v) (hr : w'.heap[r]? = w.heap[r]?) (hg : ∀ g, v.ownBlock = some g → w'.heap[g]? = w.heap[g]?) : Rl w' B r X v :=
  ⟨hr.trans h.cells, h.rB, row_kept h.row hg, h.len⟩
theorem Rl.below {w w' : World} {B r : Nat} {X : List HKey} {v : Value} (h : Rl w B r X v) (hb : Below w.heap.size w w') : Rl w' B r X v :=
  h.keep (hb.block _ (heap_lt h.cells)) fun g hg => hb.block _ (h.row.lt g hg).2
theorem Rl.alloc {w : World} {B r : Nat} {X : List HKey} {v : Value} (h : Rl w B r X v) (o : Obj) : Rl (w.alloc o) B r X v := h.below ((Below.refl _ w).alloc (Nat.le_refl _) _)
theorem Rl.size {w : World} {B r : Nat} {X : List HKey} {v : Value} (h : Rl w B r X v) : B ≤ w.heap.size := Nat.le_trans h.rB (Nat.le_of_lt (heap_lt h.cells))
theorem Rl.drew {w : World} {B r : Nat} {X : List HKey} {v : Value} (h : Rl w B r X v) : Rl w.drew B r X v := h.below (Below.refl _ _).drew
/-- What a call of the document's list leaves. -/
structure FR (B r : Nat) (w w' : World) : Prop where
  bel : Below B w w'
  keep : ∀ k, k < w.heap.size → k ≠ r → w'.heap[k]? = w.heap[k]?
theorem FR.of {B r : Nat} {w w' : World} (h : Below w.heap.size w w') (hB : B ≤ w.heap.size) : FR B r w w' := ⟨h.mono hB, fun k hk _ => h.block k hk⟩
theorem FR.trans {B r : Nat} {w w' w'' : World} (h : FR B r w w') (k : FR B r w' w'') : FR B r w w'' :=
  ⟨h.bel.trans k.bel, fun i hi h1 => (k.keep i (Nat.lt_of_lt_of_le hi h.bel.size) h1).trans (h.keep i hi h1)⟩
theorem row_other {w : World} {B t sz n r j : Nat} {v u : Value} {xs : List Value} (h : w.ownsRow B t sz v n xs) (hr : v.ownBlock ≠ some r) : (w.setCell ⟨r, j, none⟩ u).ownsRow B t sz v n xs :=
  row_kept h fun g hg => Below.heap_setCell _ _ _ _ (fun e => hr (by rw [hg]; exact congrArg some e))
/-- The row set anew. -/
theorem Rl.put {w W : World} {B r : Nat} {X X' : List HKey} {v v' : Value} (h : Rl w B r X v) (hk : ∀ k, k < w.heap.size → W.heap[k]? = w.heap[k]?) (hrow : W.ownsRow B 34 2 v' X'.length (hCells X')) (hfr : ∀ g, v'.ownBlock = some g → w.heap.size ≤ g) (hl : X'.length ≤ 1000) :
    Rl (W.setCell ⟨r, 0, none⟩ v') B r X' v' := by
  have hr := heap_lt h.cells
  refine ⟨?_, h.rB, row_other hrow (fun e => by have := hfr r e; omega), hl⟩
  have := heap_setCell_same W r 0 _ _ v' ((hk r hr).trans h.cells)
  simpa using this
theorem rat_any (w : World) (B r : Nat) (X : List HKey) (v : Value) (h : Rl w B r X v) (k : HKey) :
    Calls Try.prog 10 #[.pointer (some ⟨r, 0, none⟩), .agg #[.int .i64 k.1, .int .u64 k.2]] w fun e w' => ∃ j : Int, e = .returned (.int .i64 j) ∧ ((k ∉ X ∧ j = -1) ∨ ∃ i : Nat, j = i ∧ X[i]? = some k ∧ ∀ i' x, i' < i → X[i']? = some x → x ≠ k) ∧ Below w.heap.size w w' := by
  have hl := h.len
  have hb1 := (Below.refl _ w).alloc (Nat.le_refl _) (.cells #[.int .i64 k.1, .int .u64 k.2] 34)
  have h1 := h.below hb1
  have yz := heap_alloc_new w (.cells #[.int .i64 k.1, .int .u64 k.2] 34)
  obtain ⟨p, c, rfl⟩ := own_shape h.row
  go_enter Try.func10, Try.ntmps10
  go_upto_region 1 with fail
  generalize w.alloc (.cells #[.int .i64 k.1, .int .u64 k.2] 34) = W at hb1 h1 yz ⊢
  have hzs := hb1.size
  go_wp2
  go_loopw [5] (fun n5 wr => ∃ j : Nat, n5 = .int .i64 j ∧ j ≤ X.length ∧ (∀ i x, i < j → X[i]? = some x → x ≠ k) ∧ Below W.heap.size W wr) (fun n5 _ => X.length - (valOf n5).toNat)
  case atStart => exact ⟨0, rfl, by omega, by omega, Below.refl _ _⟩
  case round =>
    obtain ⟨j, rfl, hj, hd, hbr⟩ := hrel
    have hr := h1.below hbr
    have c0 : wr.cell? ⟨r, 0, none⟩ = some (.slice p X.length c) := by rw [cell_of hr.cells]; rfl
    have yr := (hbr.block _ (heap_lt yz)).trans yz
    have y0 := cell_of yr 0
    have y1 := cell_of yr 1
    simp at y0 y1
    by_cases hin : j < X.length
    · have d : decide ((j : Int) < X.length) = true := by simp; omega
      have e9 : IntKind.i64.wrap ((j : Int) + 1) = (j : Int) + 1 := IntWalk.i64_in _ (by omega)
      obtain ⟨g, x, hx, hgl, hgo, hc0, hc1, hai⟩ := idx34 hr.row hin (by omega)
      by_cases hxk : x = k
      · subst hxk
        have q := fun W => eqlH x.1 x.1 x.2 x.2 W
        simp only [beq_self_eq_true, Bool.and_self] at q
        replace hd : Hid _ := hd
        replace hx : Hid _ := hx
        go_upto_region 4 with fail
        go_quiet (fail)
        go_wp2
        all_goals go_returns
        exact ⟨_, rfl, .inr ⟨j, rfl, hx.out, hd.out⟩, hb1.trans (Below.drewN (hbr.mono hzs) _)⟩
      · have q := fun W => eqlH x.1 k.1 x.2 k.2 W
        have q2 : (x.1 == k.1 && (x.2 : Int) == (k.2 : Int)) = false := by
          rw [Bool.and_eq_false_iff]
          by_cases e1 : x.1 = k.1
          · right
            have : x.2 ≠ k.2 := fun e2 => hxk (Prod.ext e1 e2)
            simp; omega
          · left; simpa using e1
        rw [q2] at q
        replace hd : Hid _ := hd
        replace hx : Hid _ := hx
        go_upto_region 4 with fail
        go_quiet (fail)
        go_wp2
        refine ⟨⟨j + 1, by simp, by omega, fun i y hi hy => ?_, Below.drewN hbr _⟩, by simp [valOf]; omega⟩
        by_cases e : i = j
        · subst e
          rw [hx.out] at hy
          cases hy
          exact hxk
        · exact hd.out i y (by omega) hy
    · have d : decide ((j : Int) < X.length) = false := by simp; omega
      replace hd : Hid _ := hd
      go_wp2
      all_goals go_returns
      refine ⟨_, rfl, .inl ⟨fun hk => ?_, rfl⟩, hb1.trans (hbr.mono hzs)⟩
      obtain ⟨i, hi⟩ := List.getElem?_of_mem hk
      have := (List.getElem?_eq_some_iff.1 hi).1
      exact hd.out i k (by omega) hi rfl
def endI (n : Nat) (q : Bool) : Int := if q ∧ 0 < n then 0 else (n : Int) - 1
set_option maxHeartbeats 2000000 in
theorem rcut_any (w : World) (B r : Nat) (X : List HKey) (v : Value) (h : Rl w B r X v) (k : Nat) (x : HKey) (hx : X[k]? = some x) :
    Calls Try.prog 12 #[.pointer (some ⟨r, 0, none⟩), .int .i64 k] w fun e w' => e = .returned (.agg #[.int .i64 x.1, .int .u64 x.2]) ∧ (∃ v', Rl w' B r (X.take k ++ X.drop (k + 1)) v') ∧ FR B r w w' := by
  have hkl := (List.getElem?_eq_some_iff.1 hx).1
  have hlX := h.len
  have hB := h.size
  have hrl := heap_lt h.cells
  have hb1 := (Below.refl _ w).alloc (Nat.le_refl _) (.cells #[.int .i64 0, .int .u64 0] 34)
  have h1 := h.below hb1
  have hy1 := heap_alloc_new w (.cells #[.int .i64 0, .int .u64 0] 34)
  obtain ⟨i34, hi34, hz0, hz1, hz2⟩ := info_parts info34
  go_enter Try.func12, Try.ntmps12
  go_upto_region 1 with fail
  generalize w.alloc (.cells #[.int .i64 0, .int .u64 0] 34) = W at h1 hb1 hy1 ⊢
  obtain ⟨gX, cX, rfl, hcX⟩ := some_shape h1.row (by omega)
  have c0 : W.cell? ⟨r, 0, none⟩ = some (.slice (some ⟨gX, 0, none⟩) X.length cX) := by rw [cell_of h1.cells]; rfl
  obtain ⟨g0, x0, hx0, hgl, hgo, hc0, hc1, hai⟩ := idx34 h1.row hkl (by omega)
  rw [hx] at hx0
  obtain rfl := Option.some.inj hx0
  have hai' := hai W
  go_upto_region 2 with fail
  have hy2 := heap_al hy1 (.cells #[.int .i64 x.1, .int .u64 x.2] 34)
  have hz3 := heap_alloc_new W (.cells #[.int .i64 x.1, .int .u64 x.2] 34)
  have hzl : w.heap.size < W.heap.size := heap_lt hy1
  have h2 := h1.alloc (.cells #[.int .i64 x.1, .int .u64 x.2] 34)
  have hbw : Below w.heap.size w (W.alloc (.cells #[.int .i64 x.1, .int .u64 x.2] 34)) := hb1.alloc hb1.size _
  have hzz : W.heap.size < (W.alloc (.cells #[.int .i64 x.1, .int .u64 x.2] 34)).heap.size := by simp
  clear c0 hc0 hc1 hai hai' h1 hy1 hb1 hgl
  generalize W.alloc (.cells #[.int .i64 x.1, .int .u64 x.2] 34) = w1 at hy2 hz3 h2 hbw hzz ⊢
  generalize W.heap.size = z at hz3 hzl hzz ⊢
  have c0 : w1.cell? ⟨r, 0, none⟩ = some (.slice (some ⟨gX, 0, none⟩) X.length cX) := by rw [cell_of h2.cells]; rfl
  have q1 := cutH gX X.length cX k (by omega) w1
  have hn1 := news_row h2.row 0 k (by omega)
  rw [List.drop_zero] at hn1
  have hw1 : B ≤ w1.heap.size := h2.size
  have e9 : IntKind.i64.wrap ((k : Int) + 1) = (k : Int) + 1 := IntWalk.i64_in _ (by omega)
  go_upto_region 4 with (at_builtin; refine wpList_append_own_at _ rfl _ _ 27 rfl w1.heap.size 34 i34 (.agg #[.int .i64 0, .int .u64 0]) 2 16 Try.underlying27 hi34 hz0 hz1 hz2 rfl (by decide) (.slice none 0 0) 0 [] rfl (World.ownsRow_nil _ _ _ _) ⟨gX, 0, none⟩ k cX (hCells (X.take k)) rfl (by rw [hCells_len]; simp; omega) hn1 (hCells_one _) (by simp [maxLen]; omega) (by omega) (Nat.le_refl _) ?_; go_loud (intro v2 w2 hown2 hgrow2 hnil2 hloc2; rw [Nat.zero_add, List.nil_append] at hown2; obtain ⟨p2, c2, rfl⟩ : ∃ p cap, v2 = .slice p k cap := own_shape hown2))
  have hk2 : ∀ i, i < w1.heap.size → w2.heap[i]? = w1.heap[i]? := fun i hi => hgrow2.block i hi (by simp [Value.ownBlock])
  have hr1 := heap_lt h2.cells
  have c0' : w2.cell? ⟨r, 0, none⟩ = some (.slice (some ⟨gX, 0, none⟩) X.length cX) := by rw [cell_of ((hk2 r hr1).trans h2.cells)]; rfl
  obtain ⟨ad, had, q2⟩ := cutL gX X.length cX (k + 1) (by omega) hcX
  have q2' := q2 w2
  rw [show ((k + 1 : Nat) : Int) = (k : Int) + 1 by simp] at q2'
  have hrX2 : w2.ownsRow B 34 2 (.slice (some ⟨gX, 0, none⟩) X.length cX) X.length (hCells X) := row_kept h2.row fun g' hg' => hk2 _ (h2.row.lt g' hg').2
  have hn2 : ∀ (j : Nat) (u : Value), (hCells (X.drop (k + 1)))[j]? = some u → w2.cell? (ad.add j) = some u := by
    by_cases e : k + 1 < X.length
    · have := news_row hrX2 (k + 1) (X.length - (k + 1)) (by omega)
      rw [List.take_of_length_le (by simp)] at this
      rw [had e]
      exact this
    · intro j u hu
      rw [List.drop_of_length_le (by omega)] at hu
      simp [hCells] at hu
  have hw2 : w1.heap.size ≤ w2.heap.size := hgrow2.size
  clear c0 q1 q2 hn1
  go_upto_region 5 with (at_builtin; refine wpList_append_own_at _ rfl _ _ 27 rfl w1.heap.size 34 i34 (.agg #[.int .i64 0, .int .u64 0]) 2 16 Try.underlying27 hi34 hz0 hz1 hz2 rfl (by decide) (.slice p2 k c2) k (hCells (X.take k)) rfl hown2 ad (X.length - (k + 1)) (cX - (k + 1)) (hCells (X.drop (k + 1))) rfl (by rw [hCells_len]; simp) hn2 (hCells_one _) (by simp [maxLen]; omega) (by omega) hw2 ?_; go_loud (intro v3 w3 hown3 hgrow3 hnil3 hloc3; obtain ⟨p3, c3, rfl⟩ : ∃ p cap, v3 = .slice p (k + (X.length - (k + 1))) cap := own_shape hown3; have hr3 : w3.heap[r]? = some (.cells #[.slice (some ⟨gX, 0, none⟩) X.length cX] 31 (0, 0)) := (by rw [hgrow3.block r (by omega) (fun e => by have := (hown2.lt r e.symm).1; omega)]; exact (hk2 r hr1).trans h2.cells); have c03 := cell_of hr3 0; have f03 := froz_of hr3 0; simp at c03))
  have hk3 : ∀ i, i < w1.heap.size → w3.heap[i]? = w1.heap[i]? := fun i hi => (hgrow3.block i (by omega) (fun e => by have := (hown2.lt i e.symm).1; omega)).trans (hk2 i hi)
  have hlen : (X.take k ++ X.drop (k + 1)).length = k + (X.length - (k + 1)) := by simp; omega
  have hR := h2.put (W := w3) (X' := X.take k ++ X.drop (k + 1)) (v' := .slice p3 (k + (X.length - (k + 1))) c3) hk3 (by rw [hlen, hCells_app]; exact row_base hown3 hw1) (fun g' hg' => (hown3.lt g' hg').1) (by omega)
  have hrB : B ≤ r := h2.rB
  have hw3 : w1.heap.size ≤ w3.heap.size := Nat.le_trans hw2 hgrow3.size
  have hwl := hbw.size
  have hF : FR B r w (w3.setCell ⟨r, 0, none⟩ (.slice p3 (k + (X.length - (k + 1))) c3)) := by
    refine ⟨⟨?_, ?_, ?_, ?_, fun i hi => ?_⟩, fun i hi h1' => ?_⟩
    · exact hgrow3.os.trans (hgrow2.os.trans hbw.os)
    · exact hgrow3.tape.trans (hgrow2.tape.trans hbw.tape)
    · exact hgrow3.output.trans (hgrow2.output.trans hbw.output)
    · simp [World.setCell]; omega
    · rw [Below.heap_setCell _ _ _ _ (by simp; omega), hk3 i (by omega)]
      exact hbw.block i (by omega)
    · rw [Below.heap_setCell _ _ _ _ (by simpa using h1'), hk3 i (by omega)]
      exact hbw.block i hi
  have hz5 : (w3.setCell ⟨r, 0, none⟩ (.slice p3 (k + (X.length - (k + 1))) c3)).heap[z]? = some (.cells #[.int .i64 x.1, .int .u64 x.2] 34 (0, 0)) := (Below.heap_setCell _ _ _ _ (by simp; omega)).trans ((hk3 z hzz).trans hz3)
  have hy5 : (w3.setCell ⟨r, 0, none⟩ (.slice p3 (k + (X.length - (k + 1))) c3)).heap[w.heap.size]? = some (.cells #[.int .i64 0, .int .u64 0] 34 (0, 0)) := (Below.heap_setCell _ _ _ _ (by simp; omega)).trans ((hk3 _ (by omega)).trans hy2)
  have hrow5 : ∀ g', (Value.slice p3 (k + (X.length - (k + 1))) c3).ownBlock = some g' → g' ≠ w.heap.size := fun g' hg' => by have := (hown3.lt g' hg').1; omega
  clear c03 f03 q2' c0'
  generalize w3.setCell ⟨r, 0, none⟩ (.slice p3 (k + (X.length - (k + 1))) c3) = W5 at hR hF hz5 hy5 ⊢
  have x0 := cell_of hz5 0
  have x1 := cell_of hz5 1
  have f0 := froz_of hy5 0
  have f1 := froz_of hy5 1
  have g0 := cell_of hy5 0
  have g1 := cell_of hy5 1
  simp at x0 x1 g0 g1
  obtain ⟨s0, s1, s2, s3⟩ := put2 hy5 (.int .i64 x.1) (.int .u64 x.2)
  have hk5 : ∀ i, i ≠ w.heap.size → ((W5.setCell ⟨w.heap.size, 0, none⟩ (.int .i64 x.1)).setCell ⟨w.heap.size, 1, none⟩ (.int .u64 x.2)).heap[i]? = W5.heap[i]? := fun i hi => by rw [Below.heap_setCell _ _ _ _ hi, Below.heap_setCell _ _ _ _ hi]
  have hout : Hid ((∃ v', Rl ((W5.setCell ⟨w.heap.size, 0, none⟩ (.int .i64 x.1)).setCell ⟨w.heap.size, 1, none⟩ (.int .u64 x.2)) B r (X.take k ++ X.drop (k + 1)) v') ∧ FR B r w ((W5.setCell ⟨w.heap.size, 0, none⟩ (.int .i64 x.1)).setCell ⟨w.heap.size, 1, none⟩ (.int .u64 x.2))) :=
    ⟨⟨_, hR.keep (hk5 r (by omega)) fun g' hg' => hk5 g' (hrow5 g' hg')⟩, ⟨(hF.bel.setCell hB _).setCell hB _, fun i hi h1' => (hk5 i (by omega)).trans (hF.keep i hi h1')⟩⟩
  go_wp2
  refine bodyPost_ret (by simp [results, Try.results12, go_sem, s0, s1, s2, s3]; try rfl) rfl ?_
  exact ⟨rfl, hout.out⟩
end Go.Proofs.Ythgmfcklipkbiaa
