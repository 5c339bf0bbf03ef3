/- Towards the statements of package slab (layer 12): the least slot that is free. -/
import Derived.Test.YtooblonafnlfcaaDoorSB
namespace Go.Proofs.YtooblonafnlfcaaDoor
open Go.ChangeShapes Go.WideShapes Go.ChangeAt Go.RowKit
set_option linter.unusedVariables false
set_option linter.unusedSimpArgs false
set_option maxRecDepth 20000
variable {Yo : Nat → Prop}
theorem cnt_full {T : Nat → Th} {i : Nat} (h : cnt T i = 64) (j : Nat) (hj : j < 64) : (T (64 * i + j)).isSome = true := by
  have h2 : ((List.range 64).filter fun j => (T (64 * i + j)).isSome) = List.range 64 := (List.filter_sublist).eq_of_length (by simpa [cnt] using h)
  have h3 := List.filter_eq_self.1 h2 j (by simpa using hj)
  exact h3
theorem cnt_le (T : Nat → Th) (i : Nat) : cnt T i ≤ 64 := by
  have := List.length_filter_le (fun j => (T (64 * i + j)).isSome) (List.range 64)
  simpa [cnt] using this
theorem eqn_nil (W : World) : (binOp .eql 65 (.slice none 0 0) (.slice none 0 0)).run Tryd.prog W = .ok (.bool true) W := by kernel_rfl
theorem eqn_some (a : Addr) (m c : Nat) (W : World) : (binOp .eql 65 (.slice (some a) m c) (.slice none 0 0)).run Tryd.prog W = .ok (.bool false) W := by kernel_rfl
theorem nen_nil (W : World) : (binOp .neq 65 (.slice none 0 0) (.slice none 0 0)).run Tryd.prog W = .ok (.bool false) W := by kernel_rfl
theorem nen_some (a : Addr) (m c : Nat) (W : World) : (binOp .neq 65 (.slice (some a) m c) (.slice none 0 0)).run Tryd.prog W = .ok (.bool true) W := by kernel_rfl
set_option maxHeartbeats 1000000 in
theorem least_any (w : World) (B b : Nat) (room used : Int) (T : Nat → Th) (n : Nat) (h : SlF Yo w B b room used T n) :
    Calls Tryd.prog 56 #[.pointer (some ⟨b, 0, none⟩)] w fun e w' => (∃ k : Nat, e = .returned (.int .i64 k) ∧ T k = none ∧ (∀ j, j < k → (T j).isSome = true) ∧ k ≤ 64 * n) ∧ w' = w := by
  obtain ⟨v, xs, hb, hv, hx⟩ := h.rows
  have hn := h.nb
  have hout := h.out
  have c3 : w.cell? ⟨b, 3, none⟩ = some v := by rw [cell_of hb]; rfl
  have hw : IntKind.i64.wrap ((n : Int) * 64) = (n : Int) * 64 := IntWalk.i64_in _ (by omega)
  clear h hb
  have hth : ∀ i j, i < n → j < 64 → ∃ g cap, v = .slice (some ⟨g, 0, none⟩) n cap ∧ w.cell? ⟨g, i * 65 + 1 + j, none⟩ = some (thV (T (64 * i + j))) ∧ w.cell? ⟨g, i * 65, none⟩ = some (.int .i64 (cnt T i)) := by
    intro i j hi hj
    rcases hv.2 with ⟨e, e2⟩ | ⟨g, cap, cur, e, hg1, hg2, hg3, hg4, hg5, hg6⟩
    · omega
    subst e
    exact ⟨g, cap, rfl, by rw [hv.cellAt _ (by omega), hx.th i j hi hj], by rw [hv.cellAt _ (by omega), hx.ct i hi]⟩
  obtain ⟨p, c, rfl⟩ : ∃ p c, v = .slice p n c := by
    rcases hv.2 with ⟨e, e2⟩ | ⟨g, cap, cur, e, _⟩
    · subst e2; exact ⟨_, _, e⟩
    · exact ⟨_, _, e⟩
  clear hv hx
  go_enter Tryd.func56, Tryd.ntmps56
  go_wp2_with fail
  go_step3
  go_wp2_with fail
  go_step3
  go_wp2_with fail
  go_loopw [17, 3] (fun n1 n3 wr => ∃ i : Nat, n1 = .int .i64 i ∧ n3 = .int .i64 ((n : Int) * 64) ∧ i ≤ n ∧ (∀ j, j < 64 * i → (T j).isSome = true) ∧ wr = w) (fun n1 _ _ => n - (intOf n1).toNat)
  case atStart => exact ⟨0, rfl, rfl, by omega, by intro j h; omega, rfl⟩
  case round =>
    obtain ⟨i, rfl, rfl, hi, hpre, hbw⟩ := hrel
    replace hpre : Hid _ := hpre
    rw [hbw]; clear hbw
    by_cases hin : i < n
    · have d : decide ((i : Int) < n) = true := by simp; omega
      obtain ⟨g, cap, e, -, hct⟩ := hth i 0 hin (by omega)
      cases e
      have e9 : IntKind.i64.wrap ((i : Int) + 1) = (i : Int) + 1 := IntWalk.i64_in _ (by omega)
      by_cases hc : cnt T i = 64
      · have hfull : Hid (∀ j, j < 64 → (T (64 * i + j)).isSome = true) := cnt_full hc
        rw [hc] at hct
        go_wp2
        refine ⟨⟨i + 1, by simp, rfl, by omega, fun j hj => ?_, by trivial⟩, by simp [intOf]; omega⟩
        by_cases hji : j < 64 * i
        · exact hpre.out j hji
        · have := hfull.out (j - 64 * i) (by omega)
          rwa [show 64 * i + (j - 64 * i) = j by omega] at this
      · have d2 : decide ((cnt T i : Int) = 64) = false := by simp; omega
        have e8 : IntKind.i64.wrap ((i : Int) * 64) = (i : Int) * 64 := IntWalk.i64_in _ (by omega)
        go_wp2
        replace hct : Hid _ := hct
        go_loopw [29, 3] (fun n2 n3 wr => ∃ j : Nat, n2 = .int .i64 j ∧ n3 = .int .i64 ((n : Int) * 64) ∧ j ≤ 64 ∧ (∀ k, k < 64 * i + j → (T k).isSome = true) ∧ wr = w) (fun n2 _ _ => 64 - (intOf n2).toNat)
        case atStart => exact ⟨0, rfl, rfl, by omega, hpre.out, rfl⟩
        case round =>
          obtain ⟨j, rfl, rfl, hj, hpr2, hbw⟩ := hrel
          replace hpr2 : Hid _ := hpr2
          rw [hbw]; clear hbw
          by_cases hjn : j < 64
          · have d4 : decide ((j : Int) < 64) = true := by simp; omega
            obtain ⟨g', cap, e, htv, -⟩ := hth i j hin hjn
            cases e
            have e5 : IntKind.i64.wrap ((j : Int) + 1) = (j : Int) + 1 := IntWalk.i64_in _ (by omega)
            have e6 : IntKind.i64.wrap ((i : Int) * 64 + j) = (i : Int) * 64 + j := IntWalk.i64_in _ (by omega)
            have q1 := eqn_nil w
            have q2 := fun a m c => eqn_some a m c w
            cases hT : T (64 * i + j) with
            | none =>
              rw [hT] at htv
              unfold thV at htv
              replace hT : Hid _ := hT
              go_wp2
              all_goals (try rw [Exit.noGoto_ret])
              all_goals go_returns
              all_goals exact ⟨⟨64 * i + j, by rw [show ((64 * i + j : Nat) : Int) = (i : Int) * 64 + j by omega]; rfl, hT.out, hpr2.out, by omega⟩, rfl⟩
            | some x =>
              obtain ⟨hh, bs⟩ := x
              rw [hT] at htv
              unfold thV at htv
              replace hT : Hid _ := hT
              go_wp2
              refine ⟨⟨j + 1, by simp, rfl, by omega, fun k hk => ?_, by trivial⟩, by simp [intOf]; omega⟩
              by_cases hk2 : k < 64 * i + j
              · exact hpr2.out k hk2
              · obtain rfl : k = 64 * i + j := by omega
                rw [hT.out]; rfl
          · have d4 : decide ((j : Int) < 64) = false := by simp; omega
            obtain rfl : j = 64 := by omega
            go_wp2
            refine ⟨⟨i + 1, by simp, rfl, by omega, fun k hk => hpr2.out k (by omega), by trivial⟩, by simp [intOf]; omega⟩
    · have d : decide ((i : Int) < n) = false := by simp; omega
      obtain rfl : i = n := by omega
      go_wp2
      all_goals (try rw [Exit.noGoto_ret])
      all_goals go_returns
      all_goals exact ⟨⟨64 * i, by rw [show ((64 * i : Nat) : Int) = (i : Int) * 64 by omega]; rfl, hout _ (by omega), hpre.out, by omega⟩, rfl⟩
end Go.Proofs.YtooblonafnlfcaaDoor
