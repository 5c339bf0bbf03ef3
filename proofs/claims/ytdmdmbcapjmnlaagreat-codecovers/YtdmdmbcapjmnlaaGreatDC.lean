/- Towards the statements of package code (layer 8): the law's own small functions: whole, begins. -/
import Derived.Test.YtdmdmbcapjmnlaaGreatCW
namespace Go.Proofs.YtdmdmbcapjmnlaaGreat
open Go.ChangeShapes Go.WideShapes Go.ChangeAt
open Go.RowKit Go.Shelf
set_option linter.unusedVariables false
set_option linter.unusedSimpArgs false
set_option maxRecDepth 20000
set_option maxHeartbeats 2000000 in
theorem whole_ok (sb : Nat) (vs : Value) (SL : List (Nat × Nat)) (n : Nat) (hne : SL ≠ []) (hall : ∀ x ∈ SL, x.1 < x.2 ∧ x.2 ≤ n) (w : World) (hS : SubsAt w sb vs SL) : Calls Tryz.prog 23 #[vs, .int .i64 n] w fun e w' => e = .returned (.bool true) ∧ Below w.heap.size w w' := by
  obtain ⟨c, rfl⟩ := hS.val
  have hlen := hS.len
  have hpos : 0 < SL.length := List.length_pos_iff.2 hne
  have hd0 : decide ((0 : Int) < SL.length) = true := by simp; omega
  go_enter Tryz.func23, Tryz.ntmps23
  go_wp2_with fail
  go_loopw [5] (fun i wr => ∃ k : Nat, i = .int .i64 k ∧ k ≤ SL.length ∧ Below w.heap.size w wr) (fun i _ => SL.length - (intOf i).toNat)
  case atStart => exact ⟨0, rfl, by omega, Below.refl _ _⟩
  case round =>
    obtain ⟨k, rfl, hk1, hb⟩ := hrel
    by_cases hlt : k < SL.length
    · obtain ⟨x, hx⟩ : ∃ x, SL[k]? = some x := ⟨SL[k], by simp [hlt]⟩
      obtain ⟨c0, c1⟩ := (hS.gr hb).cell k x hx
      obtain ⟨a1, a2⟩ := hall x (List.mem_of_getElem? hx)
      have hd : decide ((k : Int) < SL.length) = true := by simp; omega
      have d1 : decide ((x.1 : Int) < 0) = false := by simp
      have d2 : decide (n < x.2) = false := by simp; omega
      have d3 : decide (x.2 ≤ x.1) = false := by simp; omega
      have d4 : decide ((0 : Int) ≤ (k : Int) ∧ (k : Int) < (SL.length : Int)) = true := by simp; omega
      have e1 : IntKind.i64.wrap ((k : Int) + 1) = (k : Int) + 1 := IntWalk.i64_in _ (by omega)
      go_upto_region 4 with fail
      go_region_held3 (fun w' => w'.cell? ⟨sb, k * 2, none⟩ = some (.int .i64 x.1) ∧ w'.cell? ⟨sb, k * 2 + 1, none⟩ = some (.int .i64 x.2)) ((refine ⟨?_, ?_⟩ <;> repeat (with_reducible (first | assumption | apply cell_dr)))) (fail)
      go_wp2_with fail
      exact ⟨⟨k + 1, by simp, by omega, hb.drew⟩, by simp [intOf]; omega⟩
    · have hd : decide ((k : Int) < SL.length) = false := by simp; omega
      go_wp2_with fail
      go_returns
      exact ⟨rfl, hb⟩
set_option maxHeartbeats 2000000 in
theorem begins_ok (sb : Nat) (vs : Value) (SL : List (Nat × Nat)) (t : Nat) (j y : Nat) (hj : SL[j]? = some (t, y)) (w : World) (hS : SubsAt w sb vs SL) : Calls Tryz.prog 25 #[vs, .int .i64 t] w fun e w' => e = .returned (.bool true) ∧ w' = w := by
  obtain ⟨c, rfl⟩ := hS.val
  have hlen := hS.len
  have hjl := (List.getElem?_eq_some_iff.1 hj).1
  go_enter Tryz.func25, Tryz.ntmps25
  go_wp2_with fail
  go_loopw [5] (fun i wr => ∃ k : Nat, i = .int .i64 k ∧ k ≤ j ∧ wr = w) (fun i _ => j + 1 - (intOf i).toNat)
  case atStart => exact ⟨0, rfl, by omega, rfl⟩
  case round =>
    obtain ⟨k, rfl, hk1, rfl⟩ := hrel
    have hlt : k < SL.length := by omega
    obtain ⟨x, hx⟩ : ∃ x, SL[k]? = some x := ⟨SL[k], by simp [hlt]⟩
    obtain ⟨c0, c1⟩ := hS.cell k x hx
    have hd : decide ((k : Int) < SL.length) = true := by simp; omega
    have d4 : decide ((0 : Int) ≤ (k : Int) ∧ (k : Int) < (SL.length : Int)) = true := by simp; omega
    have e1 : IntKind.i64.wrap ((k : Int) + 1) = (k : Int) + 1 := IntWalk.i64_in _ (by omega)
    have hcase : (((x.1 : Int) == (t : Int)) = true) ∨ (((x.1 : Int) == (t : Int)) = false ∧ k ≠ j) := by
      by_cases h : x.1 = t
      · exact .inl (by simp [h])
      · refine .inr ⟨by simp; omega, fun e => ?_⟩
        rw [e, hj] at hx; cases hx; exact h rfl
    rcases hcase with hq | ⟨hq, hkj⟩
    · go_wp2_with fail
      try rw [Exit.noGoto_ret]
      go_returns
      exact ⟨rfl, rfl⟩
    · go_wp2_with fail
      exact ⟨⟨k + 1, by simp, by omega, by first | rfl | trivial⟩, by simp [intOf]; omega⟩
end Go.Proofs.YtdmdmbcapjmnlaaGreat
