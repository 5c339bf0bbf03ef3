/- Towards the statements of package span (layer 4): the examples of the document come out as it says. -/
import Derived.Test.YtkfjjpdcbdbdiaaApi2
namespace Go.Proofs.Ytkfjjpdcbdbdiaa
open Go.ChangeShapes Go.WideShapes Go.ChangeAt Go.RowKit
set_option linter.unusedVariables false
set_option maxRecDepth 20000

theorem w_add (w : World) : Calls Try.prog 36 #[.agg #[.int .u64 1, .int .u64 2], .agg #[.int .u64 3, .int .u64 5]] w fun e w' => e = .returned (.agg #[.int .u64 4, .int .u64 7]) ∧ Gr w w' :=
  add_any 1 2 3 5 (by unfold InU; omega) (by unfold InU; omega) (by unfold InU; omega) (by unfold InU; omega) w
theorem w_sub (w : World) : Calls Try.prog 38 #[.agg #[.int .u64 1, .int .u64 2], .agg #[.int .u64 3, .int .u64 5]] w fun e w' => e = .returned (.agg #[.int .u64 0, .int .u64 18446744073709551615]) ∧ Gr w w' :=
  sub_any 1 2 3 5 (by unfold InU; omega) (by unfold InU; omega) (by unfold InU; omega) (by unfold InU; omega) w
theorem w_sign (w : World) : Calls Try.prog 52 #[.agg #[.int .u64 9223372036854775808, .int .u64 18446744073709551615]] w fun e w' => e = .returned (.agg #[.int .i64 (-9223372036854775808), .int .i64 (-1)]) ∧ Gr w w' := by
  have h := sign_any 9223372036854775808 18446744073709551615 w
  have e1 : wrap64 18446744073709551615 = -1 := by simp only [wrap64]; omega
  have e2 : wrap64 9223372036854775808 = -9223372036854775808 := by simp only [wrap64]; omega
  rw [e1, e2] at h
  exact h
theorem w_has2 (w : World) : Calls Try.prog 22 #[.agg #[.int .u64 1, .int .u64 2], .int .u64 2] w fun e w' => e = .returned (.bool true) ∧ Gr w w' :=
  (Has_u 1 2 2 w).mono fun e w' ⟨he, hw⟩ => ⟨he, hw ▸ ⟨by go_grown, by go_grown⟩⟩
theorem w_has3 (w : World) : Calls Try.prog 22 #[.agg #[.int .u64 1, .int .u64 2], .int .u64 3] w fun e w' => e = .returned (.bool false) ∧ Gr w w' :=
  (Has_u 1 2 3 w).mono fun e w' ⟨he, hw⟩ => ⟨he, hw ▸ ⟨by go_grown, by go_grown⟩⟩
theorem w_holds (w : World) : Calls Try.prog 30 #[.agg #[.int .i64 (-9223372036854775808), .int .i64 9223372036854775807], .int .i64 (-5)] w fun e w' => e = .returned (.bool true) ∧ Gr w w' :=
  (Has_s (-9223372036854775808) 9223372036854775807 (-5) w).mono fun e w' ⟨he, hw⟩ => ⟨he, hw ▸ ⟨by go_grown, by go_grown⟩⟩
theorem full_gr (w : World) : Calls Try.prog 75 #[] w fun e w' => e = .returned (.agg #[.int .u64 0, .int .u64 18446744073709551615]) ∧ Gr w w' :=
  (whole_u w).mono fun e w' ⟨he, hw⟩ => ⟨he, hw ▸ ⟨by go_grown, by go_grown⟩⟩
theorem all_gr (w : World) : Calls Try.prog 76 #[] w fun e w' => e = .returned (.agg #[.int .i64 (-9223372036854775808), .int .i64 9223372036854775807]) ∧ Gr w w' :=
  (whole_s w).mono fun e w' ⟨he, hw⟩ => ⟨he, hw ▸ ⟨by go_grown, by go_grown⟩⟩
theorem rfull_gr (w : World) : Calls Try.prog 77 #[] w fun e w' => e = .returned (.agg #[.int .u64 0, .int .u64 18446744073709551615]) ∧ Gr w w' :=
  (rfull w).mono fun e w' ⟨he, hw⟩ => ⟨he, hw ▸ ⟨by go_grown, by go_grown⟩⟩
theorem rall_gr (w : World) : Calls Try.prog 78 #[] w fun e w' => e = .returned (.agg #[.int .i64 (-9223372036854775808), .int .i64 9223372036854775807]) ∧ Gr w w' :=
  (rall w).mono fun e w' ⟨he, hw⟩ => ⟨he, hw ▸ ⟨by go_grown, by go_grown⟩⟩
set_option maxHeartbeats 4000000 in
theorem works_any (w : World) : Calls Try.prog 35 #[] w fun e w' => e = .returned (.bool true) ∧ Gr w w' := by
  have HA : Hid (At ((w.alloc (.cells #[.int .u64 1, .int .u64 2] 35)).alloc (.cells #[.int .u64 3, .int .u64 5] 35)) w.heap.size (.int .u64 1) (.int .u64 2) 35) := (At.newb _ rfl _ _ _).alloc _
  have HB : Hid (At ((w.alloc (.cells #[.int .u64 1, .int .u64 2] 35)).alloc (.cells #[.int .u64 3, .int .u64 5] 35)) (w.heap.size + 1) (.int .u64 3) (.int .u64 5) 35) := At.newb _ (by simp) _ _ _
  have HF : Hid (Gr w ((w.alloc (.cells #[.int .u64 1, .int .u64 2] 35)).alloc (.cells #[.int .u64 3, .int .u64 5] 35))) := (⟨by go_grown, by go_grown⟩ : Gr w _)
  go_enter Try.func35, Try.ntmps35
  go_wp2_with fail
  revert HA HB HF
  generalize ((w.alloc (.cells #[.int .u64 1, .int .u64 2] 35)).alloc (.cells #[.int .u64 3, .int .u64 5] 35)) = W
  intro HA HB HF
  have hne : Nonempty (GrBy W) := ⟨⟨W, Gr.refl W⟩⟩
  have a0 : ∀ p : GrBy W, p.to.cell? ⟨w.heap.size, 0, none⟩ = some (.int .u64 1) := fun p => (HA.out.gr p.gr).c0
  have a1 : ∀ p : GrBy W, p.to.cell? ⟨w.heap.size, 1, none⟩ = some (.int .u64 2) := fun p => (HA.out.gr p.gr).c1
  have b0 : ∀ p : GrBy W, p.to.cell? ⟨w.heap.size + 1, 0, none⟩ = some (.int .u64 3) := fun p => (HB.out.gr p.gr).c0
  have b1 : ∀ p : GrBy W, p.to.cell? ⟨w.heap.size + 1, 1, none⟩ = some (.int .u64 5) := fun p => (HB.out.gr p.gr).c1
  obtain ⟨p', hp'⟩ : ∃ p : GrBy W, p.to = W := ⟨⟨W, Gr.refl W⟩, rfl⟩
  rw [← hp']
  clear hp'
  go_wp2_with (first
    | (go_at_call 36; refine (w_add _).mono ?_; rintro e w' ⟨rfl, hg⟩; obtain ⟨q', rfl⟩ := by_of hg; clear hg)
    | (go_at_call 38; refine (w_sub _).mono ?_; rintro e w' ⟨rfl, hg⟩; obtain ⟨q', rfl⟩ := by_of hg; clear hg)
    | (go_at_call 52; refine (w_sign _).mono ?_; rintro e w' ⟨rfl, hg⟩; obtain ⟨q', rfl⟩ := by_of hg; clear hg)
    | (go_at_call_of 22 (Value.int IntKind.u64 3); refine (w_has3 _).mono ?_; rintro e w' ⟨rfl, hg⟩; obtain ⟨q', rfl⟩ := by_of hg; clear hg)
    | (go_at_call 22; refine (w_has2 _).mono ?_; rintro e w' ⟨rfl, hg⟩; obtain ⟨q', rfl⟩ := by_of hg; clear hg)
    | (go_at_call 30; refine (w_holds _).mono ?_; rintro e w' ⟨rfl, hg⟩; obtain ⟨q', rfl⟩ := by_of hg; clear hg)
    | (go_at_call 75; refine (full_gr _).mono ?_; rintro e w' ⟨rfl, hg⟩; obtain ⟨q', rfl⟩ := by_of hg; clear hg)
    | (go_at_call 76; refine (all_gr _).mono ?_; rintro e w' ⟨rfl, hg⟩; obtain ⟨q', rfl⟩ := by_of hg; clear hg)
    | (go_at_call 77; refine (rfull_gr _).mono ?_; rintro e w' ⟨rfl, hg⟩; obtain ⟨q', rfl⟩ := by_of hg; clear hg)
    | (go_at_call 78; refine (rall_gr _).mono ?_; rintro e w' ⟨rfl, hg⟩; obtain ⟨q', rfl⟩ := by_of hg; clear hg))
  go_ret
  exact ⟨rfl, HF.out.trans q'.gr⟩
end Go.Proofs.Ytkfjjpdcbdbdiaa
