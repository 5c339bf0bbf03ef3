/- Towards the statements of package types (layer 10): the document's Same. -/
import Derived.Test.YtmcjmdoeafhjpaaTY
namespace Go.Proofs.Ytmcjmdoeafhjpaa
open Go.ChangeShapes Go.WideShapes Go.ChangeAt
open Go.RowKit Go.Shelf
set_option linter.unusedVariables false
set_option linter.unusedSimpArgs false
set_option maxRecDepth 20000

set_option maxHeartbeats 8000000 in
theorem rsame1_any (t u : Ty) (w : World) (ht : Flds w t.p t.fs) (hu : Flds w u.p u.fs) : Calls Try.prog 41 #[.agg #[.string t.n, .int .i64 t.s, .slice t.p t.fs.length t.c], .agg #[.string u.n, .int .i64 u.s, .slice u.p u.fs.length u.c]] w fun e w' => e = .returned (.bool (decide (t.core = u.core))) ∧ Bl w w' := by
  have hb0 : Bl w ((w.alloc (.cells t.cs 42)).alloc (.cells u.cs 42)) := ((Bl.refl w).alloc _).alloc _
  have hlen := ht.len
  unfold maxLen at hlen
  rw [core_eq]
  cases q0 : (t.n.toList == u.n.toList) with
  | false =>
    have q0' : (t.n.toList != u.n.toList) = true := by simp [bne, q0]
    go_enter Try.func41, Try.ntmps41
    go_wp2
    go_returns
    exact ⟨rfl, hb0⟩
  | true =>
  have q0' : (t.n.toList != u.n.toList) = false := by simp [bne, q0]
  cases q1 : (t.s == u.s) with
  | false =>
    have q1' : (t.s != u.s) = true := by simp [bne, q1]
    go_enter Try.func41, Try.ntmps41
    go_wp2
    go_returns
    exact ⟨rfl, hb0⟩
  | true =>
  have q1' : (t.s != u.s) = false := by simp [bne, q1]
  by_cases hne : t.fs.length = u.fs.length
  · simp only [Bool.true_and]
    have d0 : ((t.fs.length : Int) != (u.fs.length : Int)) = false := by simp; omega
    have hul := hu.len
    unfold maxLen at hul
    have hlm : t.fs.length ≤ u.fs.length ∧ u.fs.length ≤ t.fs.length := by omega
    replace hne : Hid (t.fs.length = u.fs.length) := hne
    generalize hans : decide (t.fs = u.fs) = ans
    replace hans : Hid (decide (t.fs = u.fs) = ans) := hans
    have hpp : t.fs = [] ∨ (∃ b5 off5, t.p = some ⟨b5, off5, none⟩) ∧ (∃ b6 off6, u.p = some ⟨b6, off6, none⟩) := by
      by_cases hn : t.fs = []
      · exact .inl hn
      · have hn2 : u.fs ≠ [] := fun h => hn (List.eq_nil_of_length_eq_zero (by rw [hne.out, h]; rfl))
        rcases ht.at' with h | ⟨b5, off5, h5, _⟩
        · exact absurd h hn
        · rcases hu.at' with h | ⟨b6, off6, h6, _⟩
          · exact absurd h hn2
          · exact .inr ⟨⟨b5, off5, h5⟩, ⟨b6, off6, h6⟩⟩
    clear hb0
    obtain ⟨tn, ts, tp, tc, tfs⟩ := t
    obtain ⟨un, us, up, uc, ufs⟩ := u
    dsimp only at *
    rcases hpp with hnil | ⟨⟨b5, off5, rfl⟩, ⟨b6, off6, rfl⟩⟩
    · replace hnil : Hid (tfs = []) := hnil
      have hb0 : Bl w ((w.alloc (.cells #[.string tn, .int .i64 ts, .slice tp tfs.length tc] 42)).alloc (.cells #[.string un, .int .i64 us, .slice up ufs.length uc] 42)) := ((Bl.refl w).alloc _).alloc _
      have hs0 : w.heap.size + 1 < ((w.alloc (.cells #[.string tn, .int .i64 ts, .slice tp tfs.length tc] 42)).alloc (.cells #[.string un, .int .i64 us, .slice up ufs.length uc] 42)).heap.size := by rw [size_new, size_new]; omega
      have hX : ((w.alloc (.cells #[.string tn, .int .i64 ts, .slice tp tfs.length tc] 42)).alloc (.cells #[.string un, .int .i64 us, .slice up ufs.length uc] 42)).heap[w.heap.size]? = some (.cells #[.string tn, .int .i64 ts, .slice tp tfs.length tc] 42 (0, 0)) := by
        rw [heap_old _ _ (by rw [size_new]; omega)]; exact heap_new w _ 42
      have hY : ((w.alloc (.cells #[.string tn, .int .i64 ts, .slice tp tfs.length tc] 42)).alloc (.cells #[.string un, .int .i64 us, .slice up ufs.length uc] 42)).heap[w.heap.size + 1]? = some (.cells #[.string un, .int .i64 us, .slice up ufs.length uc] 42 (0, 0)) := by
        have := heap_new (w.alloc (.cells #[.string tn, .int .i64 ts, .slice tp tfs.length tc] 42)) #[.string un, .int .i64 us, .slice up ufs.length uc] 42
        rw [size_new] at this; exact this
      go_enter Try.func41, Try.ntmps41
      go_wp2
      generalize ((w.alloc (.cells #[.string tn, .int .i64 ts, .slice tp tfs.length tc] 42)).alloc (.cells #[.string un, .int .i64 us, .slice up ufs.length uc] 42)) = W at hb0 hs0 hX hY ⊢
      go_loopw [5] (fun v wr => ∃ i : Nat, v = .int .i64 i ∧ i ≤ tfs.length ∧ ((tfs = ufs) ↔ (tfs.drop i = ufs.drop i)) ∧ Bl W wr) (fun v _ => tfs.length - (intOf v).toNat)
      case atStart => exact ⟨0, rfl, by omega, by rw [List.drop_zero, List.drop_zero], Bl.refl _⟩
      case round =>
        obtain ⟨i, rfl, hi, hA, hb⟩ := hrel
        replace hA : Hid ((tfs = ufs) ↔ (tfs.drop i = ufs.drop i)) := hA
        have xs2 : wr.cell? ⟨w.heap.size, 2, none⟩ = some (.slice tp tfs.length tc) := by rw [cell_at (it_keep (w := w) hX hb)]; rfl
        have ys2 : wr.cell? ⟨w.heap.size + 1, 2, none⟩ = some (.slice up ufs.length uc) := by rw [cell_at (it_keep (w := w) hY hb)]; rfl
        by_cases h : i < tfs.length
        · exact absurd h (by rw [hnil.out]; simp)
        · have d : decide ((i : Int) < tfs.length) = false := by simp; omega
          have hr : Hid (ans = true) := by
            show ans = true
            rw [← hans.out, decide_eq_true_iff, hA.out, List.drop_eq_nil_of_le (by omega), List.drop_eq_nil_of_le (by omega)]
          go_wp2
          go_returns
          exact ⟨by rw [hr.out]; try rfl, hb0.trans hb⟩
    · have hb0 : Bl w ((w.alloc (.cells #[.string tn, .int .i64 ts, .slice (some ⟨b5, off5, none⟩) tfs.length tc] 42)).alloc (.cells #[.string un, .int .i64 us, .slice (some ⟨b6, off6, none⟩) ufs.length uc] 42)) := ((Bl.refl w).alloc _).alloc _
      have hs0 : w.heap.size + 1 < ((w.alloc (.cells #[.string tn, .int .i64 ts, .slice (some ⟨b5, off5, none⟩) tfs.length tc] 42)).alloc (.cells #[.string un, .int .i64 us, .slice (some ⟨b6, off6, none⟩) ufs.length uc] 42)).heap.size := by rw [size_new, size_new]; omega
      have hX : ((w.alloc (.cells #[.string tn, .int .i64 ts, .slice (some ⟨b5, off5, none⟩) tfs.length tc] 42)).alloc (.cells #[.string un, .int .i64 us, .slice (some ⟨b6, off6, none⟩) ufs.length uc] 42)).heap[w.heap.size]? = some (.cells #[.string tn, .int .i64 ts, .slice (some ⟨b5, off5, none⟩) tfs.length tc] 42 (0, 0)) := by
        rw [heap_old _ _ (by rw [size_new]; omega)]; exact heap_new w _ 42
      have hY : ((w.alloc (.cells #[.string tn, .int .i64 ts, .slice (some ⟨b5, off5, none⟩) tfs.length tc] 42)).alloc (.cells #[.string un, .int .i64 us, .slice (some ⟨b6, off6, none⟩) ufs.length uc] 42)).heap[w.heap.size + 1]? = some (.cells #[.string un, .int .i64 us, .slice (some ⟨b6, off6, none⟩) ufs.length uc] 42 (0, 0)) := by
        have := heap_new (w.alloc (.cells #[.string tn, .int .i64 ts, .slice (some ⟨b5, off5, none⟩) tfs.length tc] 42)) #[.string un, .int .i64 us, .slice (some ⟨b6, off6, none⟩) ufs.length uc] 42
        rw [size_new] at this; exact this
      go_enter Try.func41, Try.ntmps41
      go_wp2
      generalize ((w.alloc (.cells #[.string tn, .int .i64 ts, .slice (some ⟨b5, off5, none⟩) tfs.length tc] 42)).alloc (.cells #[.string un, .int .i64 us, .slice (some ⟨b6, off6, none⟩) ufs.length uc] 42)) = W at hb0 hs0 hX hY ⊢
      go_loopw [5] (fun v wr => ∃ i : Nat, v = .int .i64 i ∧ i ≤ tfs.length ∧ ((tfs = ufs) ↔ (tfs.drop i = ufs.drop i)) ∧ Bl W wr) (fun v _ => tfs.length - (intOf v).toNat)
      case atStart => exact ⟨0, rfl, by omega, by rw [List.drop_zero, List.drop_zero], Bl.refl _⟩
      case round =>
        obtain ⟨i, rfl, hi, hA, hb⟩ := hrel
        replace hA : Hid ((tfs = ufs) ↔ (tfs.drop i = ufs.drop i)) := hA
        have xs2 : wr.cell? ⟨w.heap.size, 2, none⟩ = some (.slice (some ⟨b5, off5, none⟩) tfs.length tc) := by rw [cell_at (it_keep (w := w) hX hb)]; rfl
        have ys2 : wr.cell? ⟨w.heap.size + 1, 2, none⟩ = some (.slice (some ⟨b6, off6, none⟩) ufs.length uc) := by rw [cell_at (it_keep (w := w) hY hb)]; rfl
        by_cases h : i < tfs.length
        · have d : decide ((i : Int) < tfs.length) = true := by simp; omega
          have d2 : decide ((i : Int) < ufs.length) = true := by simp; omega
          have e9 : IntKind.i64.wrap ((i : Int) + 1) = (i : Int) + 1 := IntWalk.i64_in _ (by omega)
          obtain ⟨x, hx⟩ : ∃ x, tfs[i]? = some x := ⟨tfs[i], List.getElem?_eq_getElem _⟩
          obtain ⟨y, hy⟩ : ∃ y, ufs[i]? = some y := ⟨ufs[i]'(by omega), List.getElem?_eq_getElem _⟩
          obtain ⟨b7, o7, hp7, hb7, ⟨x0, x1, x2, x3, x4⟩, xok, _⟩ := (ht.gr (hb0.trans hb)).get hx
          obtain ⟨b8, o8, hp8, hb8, ⟨y0, y1, y2, y3, y4⟩, yok, hym⟩ := (hu.gr (hb0.trans hb)).get hy
          cases hp7
          cases hp8
          have hdx : Hid ((tfs.drop i = ufs.drop i) ↔ (x = y ∧ tfs.drop (i + 1) = ufs.drop (i + 1))) := drop_eq hx hy
          clear hx hy
          cases qn : (x.n.toList == y.n.toList) with
          | false =>
            have hxy : decide (x = y) = false := by rw [fd_eq]; simp [qn]
            replace hxy : Hid (x ≠ y) := (show x ≠ y from of_decide_eq_false hxy)
            have hr : Hid (ans = false) := by
              show ans = false
              rw [← hans.out, decide_eq_false_iff_not, hA.out, hdx.out]
              exact fun h => hxy.out h.1
            go_upto_region 6 with fail
            go_quiet (fail)
            go_wp2
            try rw [Exit.noGoto_ret]
            go_returns
            exact ⟨by rw [hr.out]; try rfl, hb0.trans (drewN_bl hb nq)⟩
          | true =>
          cases qk : (x.k == y.k) with
          | false =>
            have hxy : decide (x = y) = false := by rw [fd_eq]; simp [qn, qk]
            replace hxy : Hid (x ≠ y) := (show x ≠ y from of_decide_eq_false hxy)
            have hr : Hid (ans = false) := by
              show ans = false
              rw [← hans.out, decide_eq_false_iff_not, hA.out, hdx.out]
              exact fun h => hxy.out h.1
            go_upto_region 6 with fail
            go_quiet (fail)
            go_wp2
            try rw [Exit.noGoto_ret]
            go_returns
            exact ⟨by rw [hr.out]; try rfl, hb0.trans (drewN_bl hb nq)⟩
          | true =>
          cases qa : (x.a == y.a) with
          | false =>
            have hxy : decide (x = y) = false := by rw [fd_eq]; simp [qn, qk, qa]
            replace hxy : Hid (x ≠ y) := (show x ≠ y from of_decide_eq_false hxy)
            have hr : Hid (ans = false) := by
              show ans = false
              rw [← hans.out, decide_eq_false_iff_not, hA.out, hdx.out]
              exact fun h => hxy.out h.1
            go_upto_region 6 with fail
            go_quiet (fail)
            go_wp2
            try rw [Exit.noGoto_ret]
            go_returns
            exact ⟨by rw [hr.out]; try rfl, hb0.trans (drewN_bl hb nq)⟩
          | true =>
          cases qo : (x.o == y.o) with
          | false =>
            have hxy : decide (x = y) = false := by rw [fd_eq]; simp [qn, qk, qa, qo]
            replace hxy : Hid (x ≠ y) := (show x ≠ y from of_decide_eq_false hxy)
            have hr : Hid (ans = false) := by
              show ans = false
              rw [← hans.out, decide_eq_false_iff_not, hA.out, hdx.out]
              exact fun h => hxy.out h.1
            go_upto_region 6 with fail
            go_quiet (fail)
            go_wp2
            try rw [Exit.noGoto_ret]
            go_returns
            exact ⟨by rw [hr.out]; try rfl, hb0.trans (drewN_bl hb nq)⟩
          | true =>
          cases qd : (x.d == y.d) with
          | false =>
            have hxy : decide (x = y) = false := by rw [fd_eq]; simp [qn, qk, qa, qo, qd]
            replace hxy : Hid (x ≠ y) := (show x ≠ y from of_decide_eq_false hxy)
            have hr : Hid (ans = false) := by
              show ans = false
              rw [← hans.out, decide_eq_false_iff_not, hA.out, hdx.out]
              exact fun h => hxy.out h.1
            go_upto_region 6 with fail
            go_quiet (fail)
            go_wp2
            try rw [Exit.noGoto_ret]
            go_returns
            exact ⟨by rw [hr.out]; try rfl, hb0.trans (drewN_bl hb nq)⟩
          | true =>
          have hxy : decide (x = y) = true := by rw [fd_eq]; simp [qn, qk, qa, qo, qd]
          replace hxy : Hid (x = y) := (show x = y from of_decide_eq_true hxy)
          have hA2 : Hid ((tfs = ufs) ↔ (tfs.drop (i + 1) = ufs.drop (i + 1))) := by
            show _ ↔ _
            rw [hA.out, hdx.out]
            exact ⟨fun h => h.2, fun h => ⟨hxy.out, h⟩⟩
          go_upto_region 6 with fail
          go_quiet (fail)
          go_wp2
          exact ⟨⟨i + 1, by simp, by omega, hA2.out, drewN_bl hb nq⟩, by simp [intOf]; omega⟩
        · have d : decide ((i : Int) < tfs.length) = false := by simp; omega
          have hr : Hid (ans = true) := by
            show ans = true
            rw [← hans.out, decide_eq_true_iff, hA.out, List.drop_eq_nil_of_le (by omega), List.drop_eq_nil_of_le (by omega)]
          go_wp2
          go_returns
          exact ⟨by rw [hr.out]; try rfl, hb0.trans hb⟩
  · have hlm : decide (t.fs = u.fs) = false := by
      rw [decide_eq_false_iff_not]; intro h; exact hne (by rw [h])
    rw [hlm]
    have d0 : ((t.fs.length : Int) != (u.fs.length : Int)) = true := by simp; omega
    go_enter Try.func41, Try.ntmps41
    go_wp2
    go_returns
    exact ⟨rfl, hb0⟩
set_option maxHeartbeats 4000000 in
theorem rsame_any (p q : Option Addr) (c e : Nat) (L M : List Ty) (w : World) (hL : Tys w p L) (hM : Tys w q M) : Calls Try.prog 14 #[.slice p L.length c, .slice q M.length e] w fun e w' => e = .returned (.bool (sameM L M)) ∧ Bl w w' := by
  have hlen := hL.len
  unfold maxLen at hlen
  unfold sameM
  by_cases hne : L.length = M.length
  · generalize hans : decide (L.map Ty.core = M.map Ty.core) = ans
    replace hans : Hid (decide (L.map Ty.core = M.map Ty.core) = ans) := hans
    have d0 : ((L.length : Int) != (M.length : Int)) = false := by simp; omega
    have hml : M.length ≤ 2 ^ 63 - 1 := by omega
    have hlm : L.length ≤ M.length ∧ M.length ≤ L.length := by omega
    replace hne : Hid (L.length = M.length) := hne
    go_enter Try.func14, Try.ntmps14
    go_wp2
    go_loopw [5] (fun v wr => ∃ i : Nat, v = .int .i64 i ∧ i ≤ L.length ∧ ((L.map Ty.core = M.map Ty.core) ↔ ((L.drop i).map Ty.core = (M.drop i).map Ty.core)) ∧ Bl w wr) (fun v _ => L.length - (intOf v).toNat)
    case atStart => exact ⟨0, rfl, by omega, by rw [List.drop_zero, List.drop_zero], Bl.refl _⟩
    case round =>
      obtain ⟨i, rfl, hi, hA, hb⟩ := hrel
      replace hA : Hid ((L.map Ty.core = M.map Ty.core) ↔ ((L.drop i).map Ty.core = (M.drop i).map Ty.core)) := hA
      by_cases h : i < L.length
      · have d : decide ((i : Int) < L.length) = true := by simp; omega
        have d2 : decide ((i : Int) < M.length) = true := by simp; omega
        have e9 : IntKind.i64.wrap ((i : Int) + 1) = (i : Int) + 1 := IntWalk.i64_in _ (by omega)
        obtain ⟨t, hx⟩ : ∃ t, L[i]? = some t := ⟨L[i], List.getElem?_eq_getElem _⟩
        obtain ⟨u, hy⟩ : ∃ u, M[i]? = some u := ⟨M[i]'(by omega), List.getElem?_eq_getElem _⟩
        obtain ⟨b1, o1, rfl, hb1, hTt, tok, _⟩ := (hL.gr hb).get hx
        obtain ⟨b2, o2, rfl, hb2, hTu, uok, hym⟩ := (hM.gr hb).get hy
        have hdx : Hid (((L.drop i).map Ty.core = (M.drop i).map Ty.core) ↔ (t.core = u.core ∧ (L.drop (i + 1)).map Ty.core = (M.drop (i + 1)).map Ty.core)) := map_drop_eq hx hy
        have k1 := fun V (h : Bl wr V) => rsame1_any t u V (tok.f.gr h) (uok.f.gr h)
        clear hx hy
        have hne2 : Nonempty (BlBy wr) := ⟨⟨_, Bl.refl _⟩⟩
        have x0 := fun p : BlBy wr => (hTt.gr hb1 p.bl).1
        have y0 := fun p : BlBy wr => (hTu.gr hb2 p.bl).1
        have x1 := fun p : BlBy wr => (hTt.gr hb1 p.bl).2.1
        have y1 := fun p : BlBy wr => (hTu.gr hb2 p.bl).2.1
        have x2 := fun p : BlBy wr => (hTt.gr hb1 p.bl).2.2
        have y2 := fun p : BlBy wr => (hTu.gr hb2 p.bl).2.2
        by_cases hxy : t.core = u.core
        · rw [decide_eq_true hxy] at k1
          replace hxy : Hid (t.core = u.core) := hxy
          have hA2 : Hid ((L.map Ty.core = M.map Ty.core) ↔ ((L.drop (i + 1)).map Ty.core = (M.drop (i + 1)).map Ty.core)) := by
            show _ ↔ _
            rw [hA.out, hdx.out]
            exact ⟨fun h => h.2, fun h => ⟨hxy.out, h⟩⟩
          go_upto_region 6 with fail
          refine wp_region_bl (by kernel_rfl) (by kernel_rfl) ?_
          repeat (first
            | go_big_quiet_skip
            | (go_big_quiet_want; go_big_quiet_op; first
              | go_big_quiet_on
              | (apply Exists.intro
                 refine ⟨fun p => ?_, ?_⟩
                 · first
                     | (go_at_call 41; exact calls_bl (k1 _ p.bl))
                 go_big_quiet_on)))
          refine wpQuiet_nil ?_
          intro _ hw'
          obtain ⟨⟨wq, hq⟩, rfl⟩ := hw'
          go_wp2
          exact ⟨⟨i + 1, by simp, by omega, hA2.out, hb.trans hq⟩, by simp [intOf]; omega⟩
        · rw [decide_eq_false hxy] at k1
          have hr : Hid (ans = false) := by
            show ans = false
            rw [← hans.out, decide_eq_false_iff_not, hA.out, hdx.out]
            exact fun h => hxy h.1
          go_upto_region 6 with fail
          refine wp_region_bl (by kernel_rfl) (by kernel_rfl) ?_
          repeat (first
            | go_big_quiet_skip
            | (go_big_quiet_want; go_big_quiet_op; first
              | go_big_quiet_on
              | (apply Exists.intro
                 refine ⟨fun p => ?_, ?_⟩
                 · first
                     | (go_at_call 41; exact calls_bl (k1 _ p.bl))
                 go_big_quiet_on)))
          refine wpQuiet_nil ?_
          intro _ hw'
          obtain ⟨⟨wq, hq⟩, rfl⟩ := hw'
          go_wp2
          try rw [Exit.noGoto_ret]
          go_returns
          exact ⟨by rw [hr.out]; try rfl, hb.trans hq⟩
      · have d : decide ((i : Int) < L.length) = false := by simp; omega
        have hr : Hid (ans = true) := by
          show ans = true
          rw [← hans.out, decide_eq_true_iff, hA.out, List.drop_eq_nil_of_le (by omega), List.drop_eq_nil_of_le (by omega)]
        go_wp2
        go_returns
        exact ⟨by rw [hr.out]; try rfl, hb⟩
  · have hlm : decide (L.map Ty.core = M.map Ty.core) = false := by
      rw [decide_eq_false_iff_not]; intro h; exact hne (by have := congrArg List.length h; simpa using this)
    rw [hlm]
    have d0 : ((L.length : Int) != (M.length : Int)) = true := by simp; omega
    go_enter Try.func14, Try.ntmps14
    go_wp2
    go_returns
    exact ⟨rfl, Bl.refl _⟩
end Go.Proofs.Ytmcjmdoeafhjpaa
