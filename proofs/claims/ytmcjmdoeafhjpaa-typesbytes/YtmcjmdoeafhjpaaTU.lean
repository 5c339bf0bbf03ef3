/- Towards the statements of package types (layer 10): Same. -/
import Derived.Test.YtmcjmdoeafhjpaaTT
namespace Go.Proofs.Ytmcjmdoeafhjpaa
open Go.ChangeShapes Go.WideShapes Go.ChangeAt
open Go.RowKit Go.Shelf
set_option linter.unusedVariables false
set_option linter.unusedSimpArgs false
set_option maxRecDepth 20000
theorem core_eq {t u : Ty} : decide (t.core = u.core) = ((t.n.toList == u.n.toList) && (t.s == u.s) && decide (t.fs = u.fs)) := by
  rw [str_eq, Bool.eq_iff_iff]
  simp [Ty.core, and_assoc]
set_option maxHeartbeats 2000000 in
theorem same1_any (t u : Ty) (w : World) (ht : Flds w t.p t.fs) (hu : Flds w u.p u.fs) : Calls Try.prog 43 #[.agg #[.string t.n, .int .i64 t.s, .slice t.p t.fs.length t.c], .agg #[.string u.n, .int .i64 u.s, .slice u.p u.fs.length u.c]] w fun e w' => e = .returned (.bool (decide (t.core = u.core))) ∧ Bl w w' := by
  have hb0 : Bl w ((w.alloc (.cells t.cs 42)).alloc (.cells u.cs 42)) := ((Bl.refl w).alloc _).alloc _
  have k1 := equal_any t.p u.p t.c u.c t.fs u.fs _ (ht.gr hb0) (hu.gr hb0)
  rw [core_eq]
  generalize decide (t.fs = u.fs) = q2 at k1 ⊢
  cases q0 : (t.n.toList == u.n.toList) with
  | false =>
    go_enter Try.func43, Try.ntmps43
    go_wp2
    go_returns
    exact ⟨rfl, hb0⟩
  | true =>
    cases q1 : (t.s == u.s) with
    | false =>
      go_enter Try.func43, Try.ntmps43
      go_wp2
      go_returns
      exact ⟨rfl, hb0⟩
    | true =>
      go_enter Try.func43, Try.ntmps43
      go_wp2_with (go_at_call 44; refine k1.mono ?_; rintro e w1 ⟨rfl, hb1⟩)
      go_returns
      exact ⟨by simp, hb0.trans hb1⟩
def sameM (L M : List Ty) : Bool := decide (L.map Ty.core = M.map Ty.core)
theorem map_drop_eq {L M : List Ty} {i : Nat} {t u : Ty} (hx : L[i]? = some t) (hy : M[i]? = some u) : ((L.drop i).map Ty.core = (M.drop i).map Ty.core) ↔ (t.core = u.core ∧ (L.drop (i + 1)).map Ty.core = (M.drop (i + 1)).map Ty.core) := by
  rw [drop_get hx, drop_get hy]; simp
set_option maxHeartbeats 4000000 in
theorem same_any (p q : Option Addr) (c e : Nat) (L M : List Ty) (w : World) (hL : Tys w p L) (hM : Tys w q M) : Calls Try.prog 42 #[.slice p L.length c, .slice q M.length e, .func (.func 43) #[] #[]] w fun e w' => e = .returned (.bool (sameM L M)) ∧ Bl w w' := by
  have hlen := hL.len
  unfold maxLen at hlen
  unfold sameM
  by_cases hne : L.length = M.length
  · generalize hans : decide (L.map Ty.core = M.map Ty.core) = ans
    replace hans : Hid (decide (L.map Ty.core = M.map Ty.core) = ans) := hans
    have d0 : ((L.length : Int) != (M.length : Int)) = false := by simp; omega
    have hml : M.length ≤ 2 ^ 63 - 1 := by omega
    have hlm : L.length ≤ M.length ∧ M.length ≤ L.length := by omega
    replace hne : Hid (L.length = M.length) := hne
    go_enter Try.func42, Try.ntmps42
    go_wp2
    go_loopw [17] (fun v wr => ∃ i : Nat, v = .int .i64 i ∧ i ≤ L.length ∧ ((L.map Ty.core = M.map Ty.core) ↔ ((L.drop i).map Ty.core = (M.drop i).map Ty.core)) ∧ Bl w wr) (fun v _ => L.length - (intOf v).toNat)
    case atStart => exact ⟨0, rfl, by omega, by rw [List.drop_zero, List.drop_zero], Bl.refl _⟩
    case round =>
      obtain ⟨i, rfl, hi, hA, hb⟩ := hrel
      replace hA : Hid ((L.map Ty.core = M.map Ty.core) ↔ ((L.drop i).map Ty.core = (M.drop i).map Ty.core)) := hA
      by_cases h : i < L.length
      · have d : decide ((i : Int) < L.length) = true := by simp; omega
        have d2 : decide ((i : Int) < M.length) = true := by simp; omega
        have e9 : IntKind.i64.wrap ((i : Int) + 1) = (i : Int) + 1 := IntWalk.i64_in _ (by omega)
        obtain ⟨t, hx⟩ : ∃ t, L[i]? = some t := ⟨L[i], List.getElem?_eq_getElem _⟩
        obtain ⟨u, hy⟩ : ∃ u, M[i]? = some u := ⟨M[i]'(by omega), List.getElem?_eq_getElem _⟩
        obtain ⟨b1, o1, rfl, hb1, ⟨x0, x1, x2⟩, tok, _⟩ := (hL.gr hb).get hx
        obtain ⟨b2, o2, rfl, hb2, hTu, uok, hym⟩ := (hM.gr hb).get hy
        have hdx : Hid (((L.drop i).map Ty.core = (M.drop i).map Ty.core) ↔ (t.core = u.core ∧ (L.drop (i + 1)).map Ty.core = (M.drop (i + 1)).map Ty.core)) := map_drop_eq hx hy
        obtain ⟨y0, y1, y2⟩ := hTu.gr hb2 ((Bl.refl wr).alloc (.cells t.cs 42))
        have hal : Bl wr ((wr.alloc (.cells t.cs 42)).alloc (.cells u.cs 42)) := ((Bl.refl _).alloc _).alloc _
        have k1 := same1_any t u _ (tok.f.gr hal) (uok.f.gr hal)
        clear hx hy
        by_cases hxy : t.core = u.core
        · rw [decide_eq_true hxy] at k1
          replace hxy : Hid (t.core = u.core) := hxy
          have hA2 : Hid ((L.map Ty.core = M.map Ty.core) ↔ ((L.drop (i + 1)).map Ty.core = (M.drop (i + 1)).map Ty.core)) := by
            show _ ↔ _
            rw [hA.out, hdx.out]
            exact ⟨fun h => h.2, fun h => ⟨hxy.out, h⟩⟩
          go_wp2_with (go_at_call 43; refine k1.mono ?_; rintro e w1 ⟨rfl, hb1⟩)
          exact ⟨⟨i + 1, by simp, by omega, hA2.out, hb.trans (hal.trans hb1)⟩, by simp [intOf]; omega⟩
        · rw [decide_eq_false hxy] at k1
          have hr : Hid (ans = false) := by
            show ans = false
            rw [← hans.out, decide_eq_false_iff_not, hA.out, hdx.out]
            exact fun h => hxy h.1
          go_wp2_with (go_at_call 43; refine k1.mono ?_; rintro e w1 ⟨rfl, hb1⟩)
          try rw [Exit.noGoto_ret]
          go_returns
          exact ⟨by rw [hr.out]; try rfl, hb.trans (hal.trans hb1)⟩
      · have d : decide ((i : Int) < L.length) = false := by simp; omega
        have hr : Hid (ans = true) := by
          show ans = true
          rw [← hans.out, decide_eq_true_iff, hA.out, List.drop_eq_nil_of_le (by omega), List.drop_eq_nil_of_le (by omega)]
        go_wp2
        go_returns
        exact ⟨by rw [hr.out]; try rfl, hb⟩
  · have hlm : decide (L.map Ty.core = M.map Ty.core) = false := by
      rw [decide_eq_false_iff_not]; intro h; exact hne (by have := congrArg List.length h; simpa using this)
    rw [hlm]
    have d0 : ((L.length : Int) != (M.length : Int)) = true := by simp; omega
    go_enter Try.func42, Try.ntmps42
    go_wp2
    go_returns
    exact ⟨rfl, Bl.refl _⟩
theorem tsame_any (p q : Option Addr) (c e : Nat) (L M : List Ty) (w : World) (hL : Tys w p L) (hM : Tys w q M) : Calls Try.prog 15 #[.slice p L.length c, .slice q M.length e] w fun e w' => e = .returned (.bool (sameM L M)) ∧ Bl w w' := by
  have k1 := same_any p q c e L M w hL hM
  go_enter Try.func15, Try.ntmps15
  go_wp2_with (go_at_call 42; refine k1.mono ?_; rintro e w1 ⟨rfl, hb1⟩)
  go_returns
  exact ⟨rfl, hb1⟩
end Go.Proofs.Ytmcjmdoeafhjpaa
