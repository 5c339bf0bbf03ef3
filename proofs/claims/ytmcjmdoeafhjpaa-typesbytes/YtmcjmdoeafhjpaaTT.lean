/- Towards the statements of package types (layer 10): whether tables are the same. -/
import Derived.Test.YtmcjmdoeafhjpaaTS
import Derived.Laws.StructEq
namespace Go.Proofs.Ytmcjmdoeafhjpaa
open Go.ChangeShapes Go.WideShapes Go.ChangeAt
open Go.RowKit Go.Shelf
set_option linter.unusedVariables false
set_option linter.unusedSimpArgs false
set_option maxRecDepth 20000

theorem drewN_bl {w W : World} (h : Bl w W) (n : Nat) : Bl w (W.drewN n) := ⟨h.os, h.tape, h.output, h.size, h.block⟩
theorem str_eq {a b : ByteArray} : (a.toList == b.toList) = decide (a = b) := by
  rw [ByteArray.toList_eq, ByteArray.toList_eq, Bool.eq_iff_iff, decide_eq_true_iff, beq_iff_eq]
  exact ⟨fun h => ByteArray.ext (Array.ext' h), fun h => by rw [h]⟩
theorem fd_eq {x y : Fd} : decide (x = y) = ((x.n.toList == y.n.toList) && (x.k == y.k) && (x.a == y.a) && (x.o == y.o) && (x.d == y.d)) := by
  rw [str_eq, Bool.eq_iff_iff]
  cases x; cases y
  simp [and_assoc]
theorem drop_eq {α : Type} {l m : List α} {i : Nat} {x y : α} (hx : l[i]? = some x) (hy : m[i]? = some y) : (l.drop i = m.drop i) ↔ (x = y ∧ l.drop (i + 1) = m.drop (i + 1)) := by
  rw [drop_get hx, drop_get hy]; simp
set_option maxHeartbeats 4000000 in
theorem equal_any (p q : Option Addr) (c e : Nat) (l m : List Fd) (w : World) (hl : Flds w p l) (hm : Flds w q m) : Calls Try.prog 44 #[.slice p l.length c, .slice q m.length e] w fun e w' => e = .returned (.bool (decide (l = m))) ∧ Bl w w' := by
  have hlen := hl.len
  unfold maxLen at hlen
  by_cases hne : l.length = m.length
  · generalize hans : decide (l = m) = ans
    replace hans : Hid (decide (l = m) = ans) := hans
    have d0 : ((l.length : Int) != (m.length : Int)) = false := by simp; omega
    have hml : m.length ≤ 2 ^ 63 - 1 := by omega
    have hlm : l.length ≤ m.length ∧ m.length ≤ l.length := by omega
    replace hne : Hid (l.length = m.length) := hne
    go_enter Try.func44, Try.ntmps44
    go_wp2
    go_loopw [13] (fun v wr => ∃ i : Nat, v = .int .i64 i ∧ i ≤ l.length ∧ ((l = m) ↔ (l.drop i = m.drop i)) ∧ Bl w wr) (fun v _ => l.length - (intOf v).toNat)
    case atStart => exact ⟨0, rfl, by omega, by rw [List.drop_zero, List.drop_zero], Bl.refl _⟩
    case round =>
      obtain ⟨i, rfl, hi, hA, hb⟩ := hrel
      replace hA : Hid ((l = m) ↔ (l.drop i = m.drop i)) := hA
      by_cases h : i < l.length
      · have d : decide ((i : Int) < l.length) = true := by simp; omega
        have d2 : decide ((i : Int) < m.length) = true := by simp; omega
        have e9 : IntKind.i64.wrap ((i : Int) + 1) = (i : Int) + 1 := IntWalk.i64_in _ (by omega)
        obtain ⟨x, hx⟩ : ∃ x, l[i]? = some x := ⟨l[i], List.getElem?_eq_getElem _⟩
        obtain ⟨y, hy⟩ : ∃ y, m[i]? = some y := ⟨m[i]'(by omega), List.getElem?_eq_getElem _⟩
        obtain ⟨b1, o1, rfl, hb1, ⟨x0, x1, x2, x3, x4⟩, xok, _⟩ := (hl.gr hb).get hx
        obtain ⟨b2, o2, rfl, hb2, ⟨y0, y1, y2, y3, y4⟩, yok, hym⟩ := (hm.gr hb).get hy
        have hdx : Hid ((l.drop i = m.drop i) ↔ (x = y ∧ l.drop (i + 1) = m.drop (i + 1))) := drop_eq hx hy
        clear hx hy
        cases qn : (x.n.toList == y.n.toList) with
        | false =>
          have hxy : decide (x = y) = false := by rw [fd_eq]; simp [qn]
          replace hxy : Hid (x ≠ y) := (show x ≠ y from of_decide_eq_false hxy)
          have hr : Hid (ans = false) := by
            show ans = false
            rw [← hans.out, decide_eq_false_iff_not, hA.out, hdx.out]
            exact fun h => hxy.out h.1
          go_upto_region 6 with fail
          go_quiet (fail)
          go_wp2
          try rw [Exit.noGoto_ret]
          go_returns
          exact ⟨by rw [hr.out]; try rfl, drewN_bl hb nq⟩
        | true =>
        cases qk : (x.k == y.k) with
        | false =>
          have hxy : decide (x = y) = false := by rw [fd_eq]; simp [qn, qk]
          replace hxy : Hid (x ≠ y) := (show x ≠ y from of_decide_eq_false hxy)
          have hr : Hid (ans = false) := by
            show ans = false
            rw [← hans.out, decide_eq_false_iff_not, hA.out, hdx.out]
            exact fun h => hxy.out h.1
          go_upto_region 6 with fail
          go_quiet (fail)
          go_wp2
          try rw [Exit.noGoto_ret]
          go_returns
          exact ⟨by rw [hr.out]; try rfl, drewN_bl hb nq⟩
        | true =>
        cases qa : (x.a == y.a) with
        | false =>
          have hxy : decide (x = y) = false := by rw [fd_eq]; simp [qn, qk, qa]
          replace hxy : Hid (x ≠ y) := (show x ≠ y from of_decide_eq_false hxy)
          have hr : Hid (ans = false) := by
            show ans = false
            rw [← hans.out, decide_eq_false_iff_not, hA.out, hdx.out]
            exact fun h => hxy.out h.1
          go_upto_region 6 with fail
          go_quiet (fail)
          go_wp2
          try rw [Exit.noGoto_ret]
          go_returns
          exact ⟨by rw [hr.out]; try rfl, drewN_bl hb nq⟩
        | true =>
        cases qo : (x.o == y.o) with
        | false =>
          have hxy : decide (x = y) = false := by rw [fd_eq]; simp [qn, qk, qa, qo]
          replace hxy : Hid (x ≠ y) := (show x ≠ y from of_decide_eq_false hxy)
          have hr : Hid (ans = false) := by
            show ans = false
            rw [← hans.out, decide_eq_false_iff_not, hA.out, hdx.out]
            exact fun h => hxy.out h.1
          go_upto_region 6 with fail
          go_quiet (fail)
          go_wp2
          try rw [Exit.noGoto_ret]
          go_returns
          exact ⟨by rw [hr.out]; try rfl, drewN_bl hb nq⟩
        | true =>
        cases qd : (x.d == y.d) with
        | false =>
          have hxy : decide (x = y) = false := by rw [fd_eq]; simp [qn, qk, qa, qo, qd]
          replace hxy : Hid (x ≠ y) := (show x ≠ y from of_decide_eq_false hxy)
          have hr : Hid (ans = false) := by
            show ans = false
            rw [← hans.out, decide_eq_false_iff_not, hA.out, hdx.out]
            exact fun h => hxy.out h.1
          go_upto_region 6 with fail
          go_quiet (fail)
          go_wp2
          try rw [Exit.noGoto_ret]
          go_returns
          exact ⟨by rw [hr.out]; try rfl, drewN_bl hb nq⟩
        | true =>
        have hxy : decide (x = y) = true := by rw [fd_eq]; simp [qn, qk, qa, qo, qd]
        replace hxy : Hid (x = y) := (show x = y from of_decide_eq_true hxy)
        have hA2 : Hid ((l = m) ↔ (l.drop (i + 1) = m.drop (i + 1))) := by
          show _ ↔ _
          rw [hA.out, hdx.out]
          exact ⟨fun h => h.2, fun h => ⟨hxy.out, h⟩⟩
        go_upto_region 6 with fail
        go_quiet (fail)
        go_wp2
        exact ⟨⟨i + 1, by simp, by omega, hA2.out, drewN_bl hb nq⟩, by simp [intOf]; omega⟩
      · have d : decide ((i : Int) < l.length) = false := by simp; omega
        have hr : Hid (ans = true) := by
          show ans = true
          rw [← hans.out, decide_eq_true_iff, hA.out, List.drop_eq_nil_of_le (by omega), List.drop_eq_nil_of_le (by omega)]
        go_wp2
        go_returns
        exact ⟨by rw [hr.out]; try rfl, hb⟩
  · have hlm : decide (l = m) = false := by
      rw [decide_eq_false_iff_not]; rintro rfl; exact hne rfl
    rw [hlm]
    have d0 : ((l.length : Int) != (m.length : Int)) = true := by simp; omega
    go_enter Try.func44, Try.ntmps44
    go_wp2
    go_returns
    exact ⟨rfl, Bl.refl _⟩
end Go.Proofs.Ytmcjmdoeafhjpaa
