/- Towards the statements of package types (layer 10): the document's field. -/
import Derived.Test.YtmcjmdoeafhjpaaRB
namespace Go.Proofs.Ytmcjmdoeafhjpaa
open Go.ChangeShapes Go.WideShapes Go.ChangeAt Go.RowKit
set_option linter.unusedVariables false
set_option linter.unusedSimpArgs false
set_option maxRecDepth 20000

def Good (ahead : List Fd) : Prop := ∀ y ∈ ahead, (0 ≤ y.a ∧ y.a ≤ 128) ∧ 0 < sizeM y.k
theorem plain_ref {s : Int} {ahead : List Fd} {a n : Int} (hn : 0 < n) (hg : Good ahead) : plainM s ahead a n = true ↔ (0 ≤ a ∧ a ≤ s ∧ n ≤ s - a ∧ ∀ y ∈ ahead, ¬ (a < y.a + sizeM y.k ∧ y.a < a + n)) := by
  unfold plainM
  split
  · rename_i h
    constructor
    · intro h'; cases h'
    · rintro ⟨h1, h2, h3, _⟩; omega
  · rename_i h
    rw [Bool.not_eq_true', List.any_eq_false]
    constructor
    · intro h'
      refine ⟨by omega, by omega, by omega, fun y hy h2 => h' y hy ?_⟩
      have := (hg y hy).2
      simp only [coversM, Bool.and_eq_true, decide_eq_true_eq]
      omega
    · rintro ⟨_, _, _, h'⟩ y hy h2
      simp only [coversM, Bool.and_eq_true, decide_eq_true_eq] at h2
      exact h' y hy (by omega)
theorem fx100 {s : Int} {ahead : List Fd} {x : Fd} (h : mayM (bt x.n) = false) : fieldX s ahead x = 100 := by rw [fieldX, if_pos h]
theorem fx104 {s : Int} {ahead : List Fd} {x : Fd} (h : mayM (bt x.n) = true) (h1 : (ahead.any fun g => g.n.toList == x.n.toList) = true) : fieldX s ahead x = 104 := by rw [fieldX, if_neg (by rw [h]; decide), if_pos h1]
theorem fx102 {s : Int} {ahead : List Fd} {x : Fd} (h : mayM (bt x.n) = true) (h1 : (ahead.any fun g => g.n.toList == x.n.toList) = false) (h2 : sizeM x.k = 0) : fieldX s ahead x = 102 := by rw [fieldX, if_neg (by rw [h]; decide), if_neg (by rw [h1]; decide), if_pos h2]
theorem fx103 {s : Int} {ahead : List Fd} {x : Fd} (h : mayM (bt x.n) = true) (h1 : (ahead.any fun g => g.n.toList == x.n.toList) = false) (h2 : sizeM x.k ≠ 0) (h3 : x.a.tmod 8 ≠ 0 ∨ plainM s ahead x.a (sizeM x.k) = false) : fieldX s ahead x = 103 := by rw [fieldX, if_neg (by rw [h]; decide), if_neg (by rw [h1]; decide), if_neg h2, if_pos h3]
theorem fxlast {s : Int} {ahead : List Fd} {x : Fd} (h : mayM (bt x.n) = true) (h1 : (ahead.any fun g => g.n.toList == x.n.toList) = false) (h2 : sizeM x.k ≠ 0) (h3 : x.a.tmod 8 = 0) (h4 : plainM s ahead x.a (sizeM x.k) = true) : fieldX s ahead x = if (x.k = 7 ∨ x.k = 6) ∧ oneM [x.k] ahead = true then 104 else 0 := by
  rw [fieldX, if_neg (by rw [h]; decide), if_neg (by rw [h1]; decide), if_neg h2, if_neg (by rw [h4]; rintro (h | h); exact h h3; cases h)]
theorem good_of {s : Int} {ahead : List Fd} {x : Fd} (hs : s ≤ 128) (h : fieldX s ahead x = 0) : (0 ≤ x.a ∧ x.a ≤ 128) ∧ 0 < sizeM x.k := by
  unfold fieldX at h
  split at h
  · omega
  split at h
  · omega
  split at h
  · omega
  rename_i hz
  split at h
  · omega
  rename_i hp
  have hb := sizeM_bd x.k
  have hpl : plainM s ahead x.a (sizeM x.k) = true := by
    cases q : plainM s ahead x.a (sizeM x.k) with
    | true => rfl
    | false => exact absurd (.inr q) hp
  unfold plainM at hpl
  split at hpl
  · cases hpl
  · rename_i h'; omega
theorem any_take {fs : List Fd} {i : Nat} (P : Fd → Bool) (h : ∀ l y, l < i → fs[l]? = some y → P y = false) : (fs.take i).any P = false := by
  rw [List.any_eq_false]
  intro y hy
  obtain ⟨l, hl⟩ := List.getElem?_of_mem hy
  rw [List.getElem?_take] at hl
  split at hl
  · rw [h l y (by assumption) hl]; decide
  · cases hl
theorem any_take' {fs : List Fd} {i l : Nat} {y : Fd} (P : Fd → Bool) (h : fs[l]? = some y) (hl : l < i) (hp : P y = true) : (fs.take i).any P = true :=
  List.any_eq_true.2 ⟨y, List.mem_of_getElem? (i := l) (by rw [List.getElem?_take, if_pos hl]; exact h), hp⟩
theorem mem_take' {fs : List Fd} {i l : Nat} {y : Fd} (h : fs[l]? = some y) (hl : l < i) : y ∈ fs.take i := List.mem_of_getElem? (i := l) (by rw [List.getElem?_take, if_pos hl]; exact h)
set_option maxHeartbeats 8000000 in
theorem rfield_any (t : Ty) (i : Nat) (x : Fd) (hx : t.fs[i]? = some x) (w : World) (hf : Flds w t.p t.fs) (hs : 8 ≤ t.s ∧ t.s ≤ 128) (hn : x.n.size ≤ 1048576) (hG : Good (t.fs.take i)) :
    Calls Try.prog 76 #[.agg #[.string t.n, .int .i64 t.s, .slice t.p t.fs.length t.c], .int .i64 i] w fun e w' => e = .returned (.int .i64 (fieldX t.s (t.fs.take i) x)) ∧ Bl w w' := by
  have hlen := hf.len
  unfold maxLen at hlen
  have hil := (List.getElem?_eq_some_iff.1 hx).1
  have hb0 : Bl w (w.alloc (.cells t.cs 42)) := (Bl.refl w).alloc _
  obtain ⟨b, off, hp, hb1, ⟨c0, c1, c2, c3, c4⟩, hok, _⟩ := (hf.gr hb0).get hx
  obtain ⟨tn, ts, tp, tc, tfs⟩ := t
  dsimp only [Ty.cs] at *
  subst hp
  have d1 : decide ((i : Int) < (tfs.length : Int)) = true := by simp; omega
  have hT0 := heap_new w #[.string tn, .int .i64 ts, .slice (some ⟨b, off, none⟩) tfs.length tc] 42
  have hX0 := heap_new (w.alloc (.cells #[.string tn, .int .i64 ts, .slice (some ⟨b, off, none⟩) tfs.length tc] 42)) #[.string x.n, .int .u8 x.k, .int .i64 x.a, .int .i64 x.o, .int .i64 x.d] 48
  rw [size_new] at hX0
  have hT1 := it_keep (w := w) hT0 ((Bl.refl _).alloc (.cells #[.string x.n, .int .u8 x.k, .int .i64 x.a, .int .i64 x.o, .int .i64 x.d] 48))
  have hb2 : Bl w ((w.alloc (.cells #[.string tn, .int .i64 ts, .slice (some ⟨b, off, none⟩) tfs.length tc] 42)).alloc (.cells #[.string x.n, .int .u8 x.k, .int .i64 x.a, .int .i64 x.o, .int .i64 x.d] 48)) := hb0.alloc _
  have kmay := fun W => rmay_any x.n hn W
  have ksz := fun k W => rsize_any k W
  generalize hans : fieldX ts (tfs.take i) x = ans
  replace hans : Hid (fieldX ts (tfs.take i) x = ans) := hans
  replace hx : Hid (tfs[i]? = some x) := hx
  cases hq1 : mayM (bt x.n) with
  | false =>
    rw [hq1] at kmay
    have hr : Hid (ans = 100) := by show _ = _; rw [← hans.out]; exact fx100 hq1
    clear hq1
    go_enter Try.func76, Try.ntmps76
    go_wp2_with (go_at_call 19; refine (kmay _).mono ?_; rintro e w3 ⟨rfl, hb3⟩)
    go_returns
    exact ⟨by rw [hr.out]; try rfl, hb2.trans hb3⟩
  | true =>
  rw [hq1] at kmay
  replace hq1 : Hid (mayM (bt x.n) = true) := hq1
  go_enter Try.func76, Try.ntmps76
  go_upto_region 4 with (go_at_call 19; refine (kmay _).mono ?_; rintro e w3 ⟨rfl, hb3⟩)
  have hT := it_keep (w := w) hT1 hb3
  have hX := it_keep (w := w) hX0 hb3
  have hbW := hb2.trans hb3
  clear hT0 hT1 hX0 hb2 hb0 hb1 c0 c1 c2 c3 c4 kmay hb3
  generalize w3 = W at hT hX hbW ⊢
  generalize w.heap.size = B at hT hX ⊢
  go_wp2
  go_loopw [6] (fun v wr => ∃ j : Nat, v = .int .i64 j ∧ j ≤ i ∧ (∀ l y, l < j → tfs[l]? = some y → (y.n.toList == x.n.toList) = false) ∧ Bl W wr) (fun v _ => i - (intOf v).toNat)
  case atStart => exact ⟨0, rfl, by omega, by intro l y h; omega, Bl.refl _⟩
  case round =>
    obtain ⟨j, rfl, hji, hpre, hb⟩ := hrel
    replace hpre : Hid _ := hpre
    have hTr := it_keep (w := w) hT hb
    have hXr := it_keep (w := w) hX hb
    have t1 : wr.cell? ⟨B, 1, none⟩ = some (.int .i64 ts) := by rw [cell_at hTr]; rfl
    have t2 : wr.cell? ⟨B, 2, none⟩ = some (.slice (some ⟨b, off, none⟩) tfs.length tc) := by rw [cell_at hTr]; rfl
    have x0 : wr.cell? ⟨B + 1, 0, none⟩ = some (.string x.n) := by rw [cell_at hXr]; rfl
    have x1 : wr.cell? ⟨B + 1, 1, none⟩ = some (.int .u8 x.k) := by rw [cell_at hXr]; rfl
    have x2 : wr.cell? ⟨B + 1, 2, none⟩ = some (.int .i64 x.a) := by rw [cell_at hXr]; rfl
    by_cases h : j < i
    · have d : decide ((j : Int) < i) = true := by simp; omega
      have d2 : decide ((j : Int) < tfs.length) = true := by simp; omega
      have e9 : IntKind.i64.wrap ((j : Int) + 1) = (j : Int) + 1 := IntWalk.i64_in _ (by omega)
      obtain ⟨y, hy⟩ : ∃ y, tfs[j]? = some y := ⟨tfs[j]'(by omega), List.getElem?_eq_getElem _⟩
      obtain ⟨b6, off6, hp6, hb6, ⟨z0, z1, z2, z3, z4⟩, hyok, _⟩ := (hf.gr (hbW.trans hb)).get hy
      cases hp6
      replace hy : Hid (tfs[j]? = some y) := hy
      cases hq : (y.n.toList == x.n.toList) with
      | true =>
        have hr : Hid (ans = 104) := by show _ = _; rw [← hans.out]; exact fx104 hq1.out (any_take' _ hy.out h hq)
        go_upto_region 7 with fail
        go_quiet (fail)
        go_wp2
        try rw [Exit.noGoto_ret]
        go_returns
        exact ⟨by rw [hr.out]; try rfl, hbW.trans (drewN_bl hb nq)⟩
      | false =>
        have hnx : Hid (∀ l z, l < j + 1 → tfs[l]? = some z → (z.n.toList == x.n.toList) = false) := fun l z hl hz => by
          by_cases hlj : l = j
          · subst hlj; rw [hy.out] at hz; cases hz; exact hq
          · exact hpre.out l z (by omega) hz
        go_upto_region 7 with fail
        go_quiet (fail)
        go_wp2
        exact ⟨⟨j + 1, by simp, by omega, hnx.out, drewN_bl hb nq⟩, by simp [intOf]; omega⟩
    · have d : decide ((j : Int) < i) = false := by simp; omega
      obtain rfl : j = i := by omega
      have hq2 : Hid ((tfs.take j).any (fun g => g.n.toList == x.n.toList) = false) := any_take _ hpre.out
      have ks := ksz x.k
      have hsb := sizeM_bd x.k
      by_cases hz : sizeM x.k = 0
      · have hr : Hid (ans = 102) := by show _ = _; rw [← hans.out]; exact fx102 hq1.out hq2.out hz
        rw [hz] at ks
        clear hz ksz
        go_wp2_with (go_at_call 94; refine (ks _).mono ?_; rintro e w4 ⟨rfl, hw⟩; rw [hw]; clear hw)
        go_returns
        exact ⟨by rw [hr.out]; try rfl, hbW.trans hb⟩
      have hz2 : (sizeM x.k == 0) = false := by simpa using hz
      have hxa := hok.a
      by_cases hbad : x.a < 0 ∨ x.a.tmod 8 ≠ 0 ∨ ts < x.a ∨ ts - x.a < sizeM x.k
      · have hr : Hid (ans = 103) := by
          show _ = _
          rw [← hans.out]
          refine fx103 hq1.out hq2.out hz ?_
          by_cases h8 : x.a.tmod 8 ≠ 0
          · exact .inl h8
          · right
            cases q : plainM ts (tfs.take j) x.a (sizeM x.k) with
            | false => rfl
            | true => have := (plain_ref (by omega) hG).1 q; omega
        replace hz : Hid (sizeM x.k ≠ 0) := hz
        generalize sizeM x.k = n at ks hsb hz2 hbad
        clear ksz
        by_cases g1 : x.a < 0
        · have q1 : decide (x.a < 0) = true := by simpa using g1
          clear hbad
          go_wp2_with (go_at_call 94; refine (ks _).mono ?_; rintro e w4 ⟨rfl, hw⟩; rw [hw]; clear hw)
          go_returns
          exact ⟨by rw [hr.out]; try rfl, hbW.trans hb⟩
        have q1 : decide (x.a < 0) = false := by simp; omega
        have em : x.a.tmod 8 = x.a % 8 := Int.tmod_eq_emod_of_nonneg (by omega)
        by_cases g2 : x.a.tmod 8 ≠ 0
        · have q2 : (x.a.tmod 8 != 0) = true := by simpa using g2
          have q2b : (x.a % 8 != 0) = true := by rw [← em]; exact q2
          clear hbad em g2
          go_wp2_with (go_at_call 94; refine (ks _).mono ?_; rintro e w4 ⟨rfl, hw⟩; rw [hw]; clear hw)
          go_returns
          exact ⟨by rw [hr.out]; try rfl, hbW.trans hb⟩
        have q2 : (x.a.tmod 8 != 0) = false := by simpa using g2
        have q2b : (x.a % 8 != 0) = false := by rw [← em]; exact q2
        by_cases g3 : ts < x.a
        · have q3 : decide (ts < x.a) = true := by simpa using g3
          clear hbad em g2
          go_wp2_with (go_at_call 94; refine (ks _).mono ?_; rintro e w4 ⟨rfl, hw⟩; rw [hw]; clear hw)
          go_returns
          exact ⟨by rw [hr.out]; try rfl, hbW.trans hb⟩
        have q3 : decide (ts < x.a) = false := by simp; omega
        have q4 : decide (ts - x.a < n) = true := by
          simp
          rcases hbad with h | h | h | h
          · omega
          · exact absurd h g2
          · omega
          · exact h
        have e4 : IntKind.i64.wrap (ts - x.a) = ts - x.a := IntWalk.i64_in _ (by omega)
        clear hbad em g2
        go_wp2_with (go_at_call 94; refine (ks _).mono ?_; rintro e w4 ⟨rfl, hw⟩; rw [hw]; clear hw)
        go_returns
        exact ⟨by rw [hr.out]; try rfl, hbW.trans hb⟩
      have g1 : 0 ≤ x.a := by omega
      have g2 : x.a.tmod 8 = 0 := by
        by_cases h8 : x.a.tmod 8 = 0
        · exact h8
        · exact absurd (.inr (.inl h8)) hbad
      have g3 : x.a ≤ ts ∧ sizeM x.k ≤ ts - x.a := by omega
      have q1 : decide (x.a < 0) = false := by simp; omega
      have q2 : (x.a.tmod 8 != 0) = false := by simpa using g2
      have q2b : (x.a % 8 != 0) = false := by rw [← Int.tmod_eq_emod_of_nonneg (by omega)]; exact q2
      have q3 : decide (ts < x.a) = false := by simp; omega
      have q4 : decide (ts - x.a < sizeM x.k) = false := by simp; omega
      have e4 : IntKind.i64.wrap (ts - x.a) = ts - x.a := IntWalk.i64_in _ (by omega)
      have e5 : IntKind.i64.wrap (x.a + sizeM x.k) = x.a + sizeM x.k := IntWalk.i64_in _ (by omega)
      replace hz : Hid (sizeM x.k ≠ 0) := hz
      replace g2 : Hid (x.a.tmod 8 = 0) := g2
      have hnpos : 0 < sizeM x.k := by have := hz.out; omega
      clear hbad
      have hpl := fun h => (plain_ref (s := ts) (a := x.a) hnpos hG).2 ⟨g1, g3.1, g3.2, h⟩
      have hpl2 := fun h => (plain_ref (s := ts) (a := x.a) hnpos hG).1 h
      generalize hnn : sizeM x.k = n at ks hsb hz2 q4 e5 hnpos hpl hpl2 g3
      replace hnn : Hid (sizeM x.k = n) := hnn
      go_upto_region 14 with (go_at_call 94; refine (ks _).mono ?_; rintro e w4 ⟨rfl, hw⟩; rw [hw]; clear hw)
      clear t1 x0 x1 x2 t2 hTr hXr
      go_wp2
      go_loopw [8] (fun v wr => ∃ l : Nat, v = .int .i64 l ∧ l ≤ j ∧ (∀ m y, m < l → tfs[m]? = some y → ¬ (x.a < y.a + sizeM y.k ∧ y.a < x.a + n)) ∧ Bl W wr) (fun v _ => j - (intOf v).toNat)
      case atStart => exact ⟨0, rfl, by omega, by intro m y h; omega, hb⟩
      case round =>
        clear hb
        obtain ⟨l, rfl, hlj, hpre2, hb⟩ := hrel
        replace hpre2 : Hid _ := hpre2
        have hTr := it_keep (w := w) hT hb
        have hXr := it_keep (w := w) hX hb
        have t2 : wr.cell? ⟨B, 2, none⟩ = some (.slice (some ⟨b, off, none⟩) tfs.length tc) := by rw [cell_at hTr]; rfl
        by_cases h : l < j
        · have d : decide ((l : Int) < j) = true := by simp; omega
          have d2 : decide ((l : Int) < tfs.length) = true := by simp; omega
          have e9 : IntKind.i64.wrap ((l : Int) + 1) = (l : Int) + 1 := IntWalk.i64_in _ (by omega)
          obtain ⟨y, hy⟩ : ∃ y, tfs[l]? = some y := ⟨tfs[l]'(by omega), List.getElem?_eq_getElem _⟩
          obtain ⟨b6, off6, hp6, hb6, ⟨z0, z1, z2, z3, z4⟩, hyok, _⟩ := (hf.gr (hbW.trans hb)).get hy
          cases hp6
          have hyG := hG y (mem_take' hy h)
          have hyb := sizeM_bd y.k
          have ky := ksz y.k
          have e6 : IntKind.i64.wrap (y.a + sizeM y.k) = y.a + sizeM y.k := IntWalk.i64_in _ (by omega)
          have hmem := mem_take' hy h
          replace hy : Hid (tfs[l]? = some y) := hy
          have hXa := it_keep (w := w) hXr ((Bl.refl wr).alloc (.cells #[.string y.n, .int .u8 y.k, .int .i64 y.a, .int .i64 y.o, .int .i64 y.d] 48))
          have x2 : (wr.alloc (.cells #[.string y.n, .int .u8 y.k, .int .i64 y.a, .int .i64 y.o, .int .i64 y.d] 48)).cell? ⟨B + 1, 2, none⟩ = some (.int .i64 x.a) := by rw [cell_at hXa]; rfl
          by_cases hov : x.a < y.a + sizeM y.k ∧ y.a < x.a + n
          · have hr : Hid (ans = 103) := by
              show _ = _
              rw [← hans.out]
              refine fx103 hq1.out hq2.out hz.out (.inr ?_)
              rw [hnn.out]
              cases q : plainM ts (tfs.take j) x.a n with
              | false => rfl
              | true => exact absurd hov ((hpl2 q).2.2.2 y hmem)
            have o1 : decide (x.a < y.a + sizeM y.k) = true := by simpa using hov.1
            have o2 : decide (y.a < x.a + n) = true := by simpa using hov.2
            generalize sizeM y.k = ny at ky e6 o1
            clear hov hyG hyb
            go_upto_region 18 with fail
            go_quiet (first | (go_at_call 94; exact Calls.quiet_of_same (ky _)))
            go_wp2
            try rw [Exit.noGoto_ret]
            go_returns
            exact ⟨by rw [hr.out]; try rfl, hbW.trans (drewN_bl (hb.alloc _) nq)⟩
          · have hnx : Hid (∀ m z, m < l + 1 → tfs[m]? = some z → ¬ (x.a < z.a + sizeM z.k ∧ z.a < x.a + n)) := fun m z hm hz' => by
              by_cases hml : m = l
              · subst hml; rw [hy.out] at hz'; cases hz'; exact hov
              · exact hpre2.out m z (by omega) hz'
            by_cases o1 : x.a < y.a + sizeM y.k
            · have p1 : decide (x.a < y.a + sizeM y.k) = true := by simpa using o1
              have p2 : decide (y.a < x.a + n) = false := by simp; omega
              generalize sizeM y.k = ny at ky e6 p1
              clear hov hyG hyb o1
              go_upto_region 18 with fail
              go_quiet (first | (go_at_call 94; exact Calls.quiet_of_same (ky _)))
              go_wp2
              exact ⟨⟨l + 1, by simp, by omega, hnx.out, drewN_bl (hb.alloc _) nq⟩, by simp [intOf]; omega⟩
            · have p1 : decide (x.a < y.a + sizeM y.k) = false := by simp; omega
              generalize sizeM y.k = ny at ky e6 p1
              clear hov hyG hyb o1
              go_upto_region 18 with fail
              go_quiet (first | (go_at_call 94; exact Calls.quiet_of_same (ky _)))
              go_wp2
              exact ⟨⟨l + 1, by simp, by omega, hnx.out, drewN_bl (hb.alloc _) nq⟩, by simp [intOf]; omega⟩
        · have d : decide ((l : Int) < j) = false := by simp; omega
          obtain rfl : l = j := by omega
          have hp9 : Hid (plainM ts (tfs.take l) x.a n = true) := hpl fun y hy => by
            obtain ⟨m, hm⟩ := List.getElem?_of_mem hy
            rw [List.getElem?_take] at hm
            split at hm
            · exact hpre2.out m y (by assumption) hm
            · cases hm
          have hlast : Hid (ans = if (x.k = 7 ∨ x.k = 6) ∧ oneM [x.k] (tfs.take l) = true then 104 else 0) := by
            show _ = _
            rw [← hans.out]
            exact fxlast hq1.out hq2.out hz.out g2.out (by rw [hnn.out]; exact hp9.out)
          clear hpl hpl2
          go_wp2
          go_loopw [10] (fun v wr => ∃ r : Nat, v = .int .i64 r ∧ r ≤ l ∧ (∀ m y, m < r → tfs[m]? = some y → ((y.k == x.k) && ((x.k == 7) || (x.k == 6))) = false) ∧ Bl W wr) (fun v _ => l - (intOf v).toNat)
          case atStart => exact ⟨0, rfl, by omega, by intro m y h; omega, hb⟩
          case round =>
            clear hb hTr hXr t2
            obtain ⟨r, rfl, hrl, hpre3, hb⟩ := hrel
            replace hpre3 : Hid _ := hpre3
            have hTr := it_keep (w := w) hT hb
            have hXr := it_keep (w := w) hX hb
            have t2 : wr.cell? ⟨B, 2, none⟩ = some (.slice (some ⟨b, off, none⟩) tfs.length tc) := by rw [cell_at hTr]; rfl
            have x1 : wr.cell? ⟨B + 1, 1, none⟩ = some (.int .u8 x.k) := by rw [cell_at hXr]; rfl
            by_cases h : r < l
            · have d : decide ((r : Int) < l) = true := by simp; omega
              have d2 : decide ((r : Int) < tfs.length) = true := by simp; omega
              have e9 : IntKind.i64.wrap ((r : Int) + 1) = (r : Int) + 1 := IntWalk.i64_in _ (by omega)
              obtain ⟨y, hy⟩ : ∃ y, tfs[r]? = some y := ⟨tfs[r]'(by omega), List.getElem?_eq_getElem _⟩
              obtain ⟨b6, off6, hp6, hb6, ⟨z0, z1, z2, z3, z4⟩, hyok, _⟩ := (hf.gr (hbW.trans hb)).get hy
              cases hp6
              replace hy : Hid (tfs[r]? = some y) := hy
              have hnx : ((y.k == x.k) && ((x.k == 7) || (x.k == 6))) = false → Hid (∀ m z, m < r + 1 → tfs[m]? = some z → ((z.k == x.k) && ((x.k == 7) || (x.k == 6))) = false) := fun hq m z hm hz' => by
                by_cases hml : m = r
                · subst hml; rw [hy.out] at hz'; cases hz'; exact hq
                · exact hpre3.out m z (by omega) hz'
              have hyes : (y.k == x.k) = true → ((x.k == 7) || (x.k == 6)) = true → Hid (ans = 104) := fun h1 h2 => by
                show _ = _
                rw [hlast.out, if_pos]
                refine ⟨by simpa using h2, any_take' _ hy.out h ?_⟩
                simpa using h1
              cases qa : (y.k == x.k) with
              | false =>
                have hn2 := hnx (by rw [qa]; rfl)
                clear hnx hyes
                go_upto_region 23 with fail
                go_quiet (fail)
                go_wp2
                exact ⟨⟨r + 1, by simp, by omega, hn2.out, drewN_bl hb nq⟩, by simp [intOf]; omega⟩
              | true =>
                cases qb : (x.k == 7) with
                | true =>
                  have hr := hyes qa (by rw [qb]; rfl)
                  clear hnx hyes
                  go_upto_region 23 with fail
                  go_quiet (fail)
                  go_wp2
                  try rw [Exit.noGoto_ret]
                  go_returns
                  exact ⟨by rw [hr.out]; try rfl, hbW.trans (drewN_bl hb nq)⟩
                | false =>
                  cases qc : (x.k == 6) with
                  | true =>
                    have hr := hyes qa (by rw [qc]; simp)
                    clear hnx hyes
                    go_upto_region 23 with fail
                    go_quiet (fail)
                    go_wp2
                    try rw [Exit.noGoto_ret]
                    go_returns
                    exact ⟨by rw [hr.out]; try rfl, hbW.trans (drewN_bl hb nq)⟩
                  | false =>
                    have hn2 := hnx (by rw [qb, qc]; simp)
                    clear hnx hyes
                    go_upto_region 23 with fail
                    go_quiet (fail)
                    go_wp2
                    exact ⟨⟨r + 1, by simp, by omega, (by first | exact hn2.out | (intro m z _ _; simp)), drewN_bl hb nq⟩, by simp [intOf]; omega⟩
            · have d : decide ((r : Int) < l) = false := by simp; omega
              have hr : Hid (ans = 0) := by
                show _ = _
                rw [hlast.out, if_neg]
                rintro ⟨h7, ho⟩
                have : oneM [x.k] (tfs.take l) = false := any_take _ fun m y hm hy => by
                  have h1 := hpre3.out m y (by omega) hy
                  have h2 : ((x.k == 7) || (x.k == 6)) = true := by simpa using h7
                  rw [h2, Bool.and_true] at h1
                  simpa using h1
                rw [this] at ho; cases ho
              go_wp2
              go_returns
              exact ⟨by rw [hr.out]; try rfl, hbW.trans hb⟩
end Go.Proofs.Ytmcjmdoeafhjpaa
