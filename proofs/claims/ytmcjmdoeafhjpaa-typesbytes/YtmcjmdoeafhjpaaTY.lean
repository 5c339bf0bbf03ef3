/- Towards the statements of package types (layer 10): Large. -/
import Derived.Test.YtmcjmdoeafhjpaaTX
namespace Go.Proofs.Ytmcjmdoeafhjpaa
open Go.ChangeShapes Go.WideShapes Go.ChangeAt Go.RowKit
set_option linter.unusedVariables false
set_option linter.unusedSimpArgs false
set_option maxRecDepth 20000

set_option maxHeartbeats 4000000 in
theorem large_any (p : Option Addr) (c : Nat) (L : List Ty) (w : World) (hL : Tys w p L) : Calls Try.prog 8 #[.slice p L.length c] w fun e w' => e = .returned (.bool (largeM L)) ∧ w' = w := by
  have hlen := hL.len
  unfold maxLen at hlen
  unfold largeM
  cases q0 : decide ((40 : Int) < L.length) with
  | true =>
    rw [show decide (40 < L.length) = true by simp at q0 ⊢; omega, Bool.true_or]
    go_enter Try.func8, Try.ntmps8
    go_wp2
    go_returns
    exact ⟨rfl, rfl⟩
  | false =>
  rw [show decide (40 < L.length) = false by simp at q0 ⊢; omega, Bool.false_or]
  generalize hans : L.any largeT = ans
  replace hans : Hid (L.any largeT = ans) := hans
  go_enter Try.func8, Try.ntmps8
  go_wp2
  go_loopw [3] (fun n wr => ∃ i : Nat, n = .int .i64 i ∧ i ≤ L.length ∧ L.any largeT = (L.drop i).any largeT ∧ wr = w) (fun n _ => L.length - (intOf n).toNat)
  case atStart => exact ⟨0, rfl, by omega, by rw [List.drop_zero], rfl⟩
  case round =>
    obtain ⟨i, rfl, hi, hA, hwi⟩ := hrel
    replace hA : Hid (L.any largeT = (L.drop i).any largeT) := hA
    rw [hwi]; clear hwi
    by_cases h : i < L.length
    · have d : decide ((i : Int) < L.length) = true := by simp; omega
      obtain ⟨t, hxk⟩ : ∃ t, L[i]? = some t := ⟨L[i], List.getElem?_eq_getElem _⟩
      have hdr : Hid (L.drop i = t :: L.drop (i + 1)) := drop_get hxk
      have e9 : IntKind.i64.wrap ((i : Int) + 1) = (i : Int) + 1 := IntWalk.i64_in _ (by omega)
      obtain ⟨b, off, rfl, hb1, ⟨c0, c1, c2⟩, hok, hil⟩ := hL.get hxk
      have hfl := hok.f.len
      unfold maxLen at hfl
      clear hxk
      have hpp : t.fs = [] ∨ ∃ b5 off5, t.p = some ⟨b5, off5, none⟩ := by
        rcases hok.f.at' with h | ⟨b5, off5, h, _⟩
        · exact .inl h
        · exact .inr ⟨b5, off5, h⟩
      obtain ⟨tn, ts, tp, tc, tfs⟩ := t
      dsimp only at *
      rcases hpp with hnil | ⟨b5, off5, rfl⟩
      · replace hnil : Hid (tfs = []) := hnil
        cases qn : decide ((300 : Int) < tn.size) with
        | true =>
          have hr : Hid (ans = true) := by
            show ans = true
            rw [← hans.out, hA.out, hdr.out, List.any_cons, largeT]
            dsimp only
            rw [show decide (300 < tn.size) = true by simp at qn ⊢; omega]; simp
          go_wp2
          try rw [Exit.noGoto_ret]
          go_returns
          exact ⟨by rw [hr.out]; try rfl, rfl⟩
        | false =>
        cases qf : decide ((300 : Int) < tfs.length) with
        | true =>
          have hr : Hid (ans = true) := by
            show ans = true
            rw [← hans.out, hA.out, hdr.out, List.any_cons, largeT]
            dsimp only
            rw [show decide (300 < tfs.length) = true by simp at qf ⊢; omega]; simp
          go_wp2
          try rw [Exit.noGoto_ret]
          go_returns
          exact ⟨by rw [hr.out]; try rfl, rfl⟩
        | false =>
        have hqq : Hid (decide (300 < tn.size) = false ∧ decide (300 < tfs.length) = false) := ⟨by simp at qn ⊢; omega, by simp at qf ⊢; omega⟩
        go_wp2
        go_loopw [4] (fun n wr => ∃ k : Nat, n = .int .i64 k ∧ k ≤ tfs.length ∧ tfs.any largeF = (tfs.drop k).any largeF ∧ wr = w) (fun n _ => tfs.length - (intOf n).toNat)
        case atStart => exact ⟨0, rfl, by omega, by rw [List.drop_zero], rfl⟩
        case round =>
          obtain ⟨m, rfl, hm, hG, hwm⟩ := hrel
          replace hG : Hid (tfs.any largeF = (tfs.drop m).any largeF) := hG
          rw [hwm]; clear hwm
          by_cases hmt : m < tfs.length
          · exact absurd hmt (by rw [hnil.out]; simp)
          · have dm : decide ((m : Int) < tfs.length) = false := by simp; omega
            have hH : Hid (L.any largeT = (L.drop (i + 1)).any largeT) := by
              show _ = _
              rw [hA.out, hdr.out, List.any_cons, largeT]
              dsimp only
              rw [hqq.out.1, hqq.out.2, hG.out, List.drop_eq_nil_of_le (by omega)]; simp
            go_wp2
            exact ⟨⟨i + 1, by simp, by omega, hH.out, by trivial⟩, by simp [intOf]; omega⟩
      · cases qn : decide ((300 : Int) < tn.size) with
        | true =>
          have hr : Hid (ans = true) := by
            show ans = true
            rw [← hans.out, hA.out, hdr.out, List.any_cons, largeT]
            dsimp only
            rw [show decide (300 < tn.size) = true by simp at qn ⊢; omega]; simp
          go_wp2
          try rw [Exit.noGoto_ret]
          go_returns
          exact ⟨by rw [hr.out]; try rfl, rfl⟩
        | false =>
        cases qf : decide ((300 : Int) < tfs.length) with
        | true =>
          have hr : Hid (ans = true) := by
            show ans = true
            rw [← hans.out, hA.out, hdr.out, List.any_cons, largeT]
            dsimp only
            rw [show decide (300 < tfs.length) = true by simp at qf ⊢; omega]; simp
          go_wp2
          try rw [Exit.noGoto_ret]
          go_returns
          exact ⟨by rw [hr.out]; try rfl, rfl⟩
        | false =>
        have hqq : Hid (decide (300 < tn.size) = false ∧ decide (300 < tfs.length) = false) := ⟨by simp at qn ⊢; omega, by simp at qf ⊢; omega⟩
        go_wp2
        go_loopw [4] (fun n wr => ∃ k : Nat, n = .int .i64 k ∧ k ≤ tfs.length ∧ tfs.any largeF = (tfs.drop k).any largeF ∧ wr = w) (fun n _ => tfs.length - (intOf n).toNat)
        case atStart => exact ⟨0, rfl, by omega, by rw [List.drop_zero], rfl⟩
        case round =>
          obtain ⟨m, rfl, hm, hG, hwm⟩ := hrel
          replace hG : Hid (tfs.any largeF = (tfs.drop m).any largeF) := hG
          rw [hwm]; clear hwm
          by_cases hmt : m < tfs.length
          · have dm : decide ((m : Int) < tfs.length) = true := by simp; omega
            obtain ⟨x, hxm⟩ : ∃ x, tfs[m]? = some x := ⟨tfs[m], List.getElem?_eq_getElem _⟩
            have hdm : Hid (tfs.drop m = x :: tfs.drop (m + 1)) := drop_get hxm
            have e8 : IntKind.i64.wrap ((m : Int) + 1) = (m : Int) + 1 := IntWalk.i64_in _ (by omega)
            obtain ⟨b6, off6, hp5, hb5, ⟨z0, z1, z2, z3, z4⟩, hxok, _⟩ := hok.f.get hxm
            cases hp5
            clear hxm
            cases hz : decide ((300 : Int) < x.n.size) with
            | true =>
              have hr : Hid (ans = true) := by
                show ans = true
                rw [← hans.out, hA.out, hdr.out, List.any_cons, largeT]
                dsimp only
                rw [hG.out, hdm.out, List.any_cons, largeF, show decide (300 < x.n.size) = true by simp at hz ⊢; omega]; simp
              go_wp2
              try rw [Exit.noGoto_ret]
              go_returns
              exact ⟨by rw [hr.out]; try rfl, rfl⟩
            | false =>
              have hG2 : Hid (tfs.any largeF = (tfs.drop (m + 1)).any largeF) := by
                show _ = _
                rw [hG.out, hdm.out, List.any_cons, largeF, show decide (300 < x.n.size) = false by simp at hz ⊢; omega]; simp
              go_wp2
              exact ⟨⟨m + 1, by simp, by omega, hG2.out, by trivial⟩, by simp [intOf]; omega⟩
          · have dm : decide ((m : Int) < tfs.length) = false := by simp; omega
            have hH : Hid (L.any largeT = (L.drop (i + 1)).any largeT) := by
              show _ = _
              rw [hA.out, hdr.out, List.any_cons, largeT]
              dsimp only
              rw [hqq.out.1, hqq.out.2, hG.out, List.drop_eq_nil_of_le (by omega)]; simp
            go_wp2
            exact ⟨⟨i + 1, by simp, by omega, hH.out, by trivial⟩, by simp [intOf]; omega⟩
    · have d : decide ((i : Int) < L.length) = false := by simp; omega
      have hr : Hid (ans = false) := by
        show ans = _
        rw [← hans.out, hA.out, List.drop_eq_nil_of_le (by omega)]; rfl
      go_wp2
      go_returns
      exact ⟨by rw [hr.out]; try rfl, rfl⟩
end Go.Proofs.Ytmcjmdoeafhjpaa
