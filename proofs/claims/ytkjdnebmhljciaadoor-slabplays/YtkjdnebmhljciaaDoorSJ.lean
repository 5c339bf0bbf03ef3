/- Towards the statements of package slab (layer 12): the document's example. -/
import Derived.Test.YtkjdnebmhljciaaDoorSI
namespace Go.Proofs.YtkjdnebmhljciaaDoor
open Go.ChangeShapes Go.WideShapes Go.ChangeAt Go.RowKit
set_option linter.unusedVariables false
set_option linter.unusedSimpArgs false
set_option maxRecDepth 20000
set_option maxHeartbeats 1000000 in
theorem works_any (w : World) (hT : Tab w) (h0 : 0 < w.heap.size) : Calls Tryd.prog 9 #[] w fun e w' => e = .returned (.bool true) ∧ Below w.heap.size w w' := by
  have k1 := new_any 24 (by omega) w
  go_enter Tryd.func9, Tryd.ntmps9
  go_upto_region 4 with (go_at_call 10; refine k1.mono ?_; rintro e w1 ⟨rfl, hS1, hB1⟩)
  have T1 := hT.gr h0 hB1
  have k2 := take_ok w1 _ _ _ _ _ _ hS1 T1 9 (by omega) (by decide) hB1.size (by omega)
  go_upto_region 5 with (go_at_call 19; refine k2.mono ?_; rintro e w2 ⟨k, rfl, hk1, hk2, -, ⟨hh, n', hn', hS2⟩, hF2⟩)
  obtain rfl : k = 0 := by
    by_cases e : k = 0
    · exact e
    · have := hk2 0 (by omega); cases this
  have e16 : (0 : Int) + clsM ((9 : Nat) : Int) = 16 := by decide
  rw [e16] at hS2
  have B2 := hB1.trans hF2.bel
  have T2 := hT.gr h0 B2
  have k3 := used_any w2 _ _ _ _ _ _ hS2
  clear k1 k2 hk1 hk2
  go_upto_region 6 with (go_at_call 12; refine k3.mono ?_; rintro e w' ⟨rfl, hw⟩; rw [hw]; clear hw)
  have k4 := take_full w2 _ _ _ _ _ _ hS2 T2 9 (by decide) (by decide)
  go_upto_region 7 with (go_at_call 19; refine k4.mono ?_; rintro e w3 ⟨rfl, hS3, hF3⟩)
  have B3 := B2.trans hF3.bel
  have T3 := hT.gr h0 B3
  have k5 := take_ok w3 _ _ _ _ _ _ hS3 T3 8 (by omega) (by decide) B3.size (by omega)
  clear k3 k4
  go_upto_region 8 with (go_at_call 19; refine k5.mono ?_; rintro e w4 ⟨k, rfl, hk1, hk2, -, ⟨h2, n2, hn2, hS4⟩, hF4⟩)
  obtain rfl : k = 1 := by
    by_cases e : k = 0
    · subst e; rw [upd_self] at hk1; cases hk1
    · by_cases e2 : k = 1
      · exact e2
      · have := hk2 1 (by omega)
        rw [upd_ne _ _ (by omega)] at this
        cases this
  have hT0 : upd (upd (fun _ => none) 0 (some (hh, List.replicate 9 0))) 1 (some (h2, List.replicate 8 0)) 0 = some (hh, List.replicate 9 0) := by
    rw [upd_ne _ _ (by omega), upd_self]
  have k6 := write_ok w4 _ _ _ _ _ _ hS4 0 (by unfold I64; omega) hh _ hT0 7 ⟨#[120, 121]⟩ (by decide)
  clear k5 hk1 hk2
  go_upto_region 9 with (go_at_call 21; refine k6.mono ?_; rintro e w5 ⟨rfl, hS5, hF5⟩)
  have k7 := read_ok w5 _ _ _ _ _ _ hS5 0 (by unfold I64; omega) hh (wr (List.replicate 9 0) 7 ⟨#[120, 121]⟩) (by simp [getT, upd_self]) 6 3 (by decide)
  rw [show strOfNums (((wr (List.replicate 9 0) 7 ⟨#[120, 121]⟩).drop 6).take 3) = ⟨#[0, 120, 121]⟩ by decide] at k7
  clear k6
  go_wp2_with (go_at_call 23; refine k7.mono ?_; rintro e w' ⟨rfl, hw⟩; rw [hw]; clear hw)
  all_goals go_returns
  all_goals exact ⟨rfl, (B3.trans hF4.bel).trans hF5.bel⟩
end Go.Proofs.YtkjdnebmhljciaaDoor
