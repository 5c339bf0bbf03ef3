/- Towards the statements of package bound (layer 5): halves as numbers with a sign, and back; what of a half its bits are; rows within rows; which bounds have no number; as the program has them. -/
import Derived.Test.YtcbcijibgpaipaaGreatBB
import Derived.Test.YtcbcijibgpaipaaGreatMC
namespace Go.Proofs.YtcbcijibgpaipaaGreat
open Go.ChangeShapes Go.WideShapes Go.ChangeAt Go.RowKit
open Tn (iv)
set_option linter.unusedVariables false
set_option maxRecDepth 20000

set_option maxHeartbeats 2000000 in
theorem soh_any (al ah : Int) (w : World) : Calls Tryz.prog 108 #[.agg #[.int .u64 al, .int .u64 ah]] w fun e w' => e = .returned (.agg #[.int .i64 (eN ((al / 2147483648 != ah / 2147483648)) (-2147483648) (sg al)), .int .i64 (eN ((al / 2147483648 != ah / 2147483648)) 2147483647 (sg ah))]) ∧ Gr w w' := by
  have HA : AtA ((w.alloc (.cells #[.int .u64 al, .int .u64 ah] 26)).alloc (.cells #[.int .i64 0, .int .i64 0] 28)) w.heap.size #[.int .u64 al, .int .u64 ah] 26 := (AtA.newb _ rfl _ _).alloc _
  have a0 := HA.cell 0
  have a1 := HA.cell 1
  have HB : AtA (w.alloc (.cells #[.int .u64 al, .int .u64 ah] 26)) w.heap.size #[.int .u64 al, .int .u64 ah] 26 := AtA.newb _ rfl _ _
  have b0 := HB.cell 0
  have b1 := HB.cell 1
  simp only [List.getElem?_toArray, List.getElem?_cons_zero, List.getElem?_cons_succ] at a0 a1 b0 b1
  clear HA HB
  cases ef : ((al / 2147483648 != ah / 2147483648))
  · go_enter Tryz.func108, Tryz.ntmps108
    go_wp2_with fail
    go_region_held3 (fun w' => w'.cell? ⟨w.heap.size, 0, none⟩ = some (.int .u64 al) ∧ w'.cell? ⟨w.heap.size, 1, none⟩ = some (.int .u64 ah)) ((refine ⟨?_, ?_⟩ <;> repeat (with_reducible (first | assumption | apply cell_al | apply cell_dr | (refine cell_gr (by assumption) ?_) | (refine cst (by simp <;> omega) ?_)))))
      (first
      | (go_at_call 53; refine (slower_any _ _).mono ?_; rintro e w' ⟨rfl, hw⟩; rw [hw]; clear hw))
    all_goals go_wp2_with fail
    all_goals go_returns
    all_goals exact ⟨by simp [eN], by go_grown, by go_grown⟩
  · go_enter Tryz.func108, Tryz.ntmps108
    go_wp2_with (first
      | (go_at_call 46; refine (shalf_any _).mono ?_; rintro e w' ⟨rfl, hw⟩; rw [hw]; clear hw)
      | (go_at_call 44; refine (half_any _).mono ?_; rintro e w' ⟨rfl, hw⟩; rw [hw]; clear hw))
    go_returns
    exact ⟨by simp [eN], by go_grown, by go_grown⟩
theorem low_neg (x : Int) : IntKind.u64.wrap x % 4294967296 = x % 4294967296 := by
  rw [IntKind.wrap_u64]
  omega
set_option maxHeartbeats 2000000 in
theorem boh_any (al ah : Int) (w : World) : Calls Tryz.prog 110 #[.agg #[.int .i64 al, .int .i64 ah]] w fun e w' => e = .returned (.agg #[.int .u64 (eN ((decide (al < 0) != decide (ah < 0))) 0 (al % 4294967296)), .int .u64 (eN ((decide (al < 0) != decide (ah < 0))) 4294967295 (ah % 4294967296))]) ∧ Gr w w' := by
  have HA : AtA ((w.alloc (.cells #[.int .i64 al, .int .i64 ah] 28)).alloc (.cells #[.int .u64 0, .int .u64 0] 26)) w.heap.size #[.int .i64 al, .int .i64 ah] 28 := (AtA.newb _ rfl _ _).alloc _
  have a0 := HA.cell 0
  have a1 := HA.cell 1
  have HB : AtA (w.alloc (.cells #[.int .i64 al, .int .i64 ah] 28)) w.heap.size #[.int .i64 al, .int .i64 ah] 28 := AtA.newb _ rfl _ _
  have b0 := HB.cell 0
  have b1 := HB.cell 1
  simp only [List.getElem?_toArray, List.getElem?_cons_zero, List.getElem?_cons_succ] at a0 a1 b0 b1
  clear HA HB
  cases e1 : decide (al < 0) <;> cases e2 : decide (ah < 0)
  · go_enter Tryz.func110, Tryz.ntmps110
    go_wp2_with fail
    go_region_held3 (fun w' => w'.cell? ⟨w.heap.size, 0, none⟩ = some (.int .i64 al) ∧ w'.cell? ⟨w.heap.size, 1, none⟩ = some (.int .i64 ah)) ((refine ⟨?_, ?_⟩ <;> repeat (with_reducible (first | assumption | apply cell_al | apply cell_dr | (refine cell_gr (by assumption) ?_) | (refine cst (by simp <;> omega) ?_)))))
      (first
      | (go_at_call 52; refine (lower_any _ (wrap_u _) _).mono ?_; rintro e w' ⟨rfl, hw⟩; rw [hw]; clear hw))
    all_goals go_wp2_with fail
    all_goals go_returns
    all_goals exact ⟨by simp [eN, low_neg], by go_grown, by go_grown⟩
  · go_enter Tryz.func110, Tryz.ntmps110
    go_wp2_with (first
      | (go_at_call 46; refine (shalf_any _).mono ?_; rintro e w' ⟨rfl, hw⟩; rw [hw]; clear hw)
      | (go_at_call 44; refine (half_any _).mono ?_; rintro e w' ⟨rfl, hw⟩; rw [hw]; clear hw))
    go_returns
    exact ⟨by simp [eN], by go_grown, by go_grown⟩
  · go_enter Tryz.func110, Tryz.ntmps110
    go_wp2_with (first
      | (go_at_call 46; refine (shalf_any _).mono ?_; rintro e w' ⟨rfl, hw⟩; rw [hw]; clear hw)
      | (go_at_call 44; refine (half_any _).mono ?_; rintro e w' ⟨rfl, hw⟩; rw [hw]; clear hw))
    go_returns
    exact ⟨by simp [eN], by go_grown, by go_grown⟩
  · go_enter Tryz.func110, Tryz.ntmps110
    go_wp2_with fail
    go_region_held3 (fun w' => w'.cell? ⟨w.heap.size, 0, none⟩ = some (.int .i64 al) ∧ w'.cell? ⟨w.heap.size, 1, none⟩ = some (.int .i64 ah)) ((refine ⟨?_, ?_⟩ <;> repeat (with_reducible (first | assumption | apply cell_al | apply cell_dr | (refine cell_gr (by assumption) ?_) | (refine cst (by simp <;> omega) ?_)))))
      (first
      | (go_at_call 52; refine (lower_any _ (wrap_u _) _).mono ?_; rintro e w' ⟨rfl, hw⟩; rw [hw]; clear hw))
    all_goals go_wp2_with fail
    all_goals go_returns
    all_goals exact ⟨by simp [eN, low_neg], by go_grown, by go_grown⟩
theorem range_i (lo hi : Int) (h1 : InU lo) (h2 : InU hi) (w : World) : Calls Tryz.prog 104 #[.int .u64 lo, .int .u64 hi] w fun e w' => e = .returned (.agg #[.int .u64 (iv (Tn.rgV (bu lo) (bu hi))), .int .u64 (iv (Tn.rgM (bu lo) (bu hi)))]) ∧ Gr w w' := by
  have h := cv (Tn.range_any (bu lo) (bu hi) w)
  rw [iv_bu h1, iv_bu h2] at h
  exact h
theorem within_any (al ah bl bh : Int) (w : World) : Calls Tryz.prog 45 #[.agg #[.int .i64 al, .int .i64 ah], .agg #[.int .i64 bl, .int .i64 bh]] w fun e w' => e = .returned (.bool ((decide (bl ≤ al) && decide (al ≤ bh)) && (decide (bl ≤ ah) && decide (ah ≤ bh)))) ∧ Gr w w' := by
  cases e1 : (decide (bl ≤ al) && decide (al ≤ bh))
  all_goals
    go_enter Tryz.func45, Tryz.ntmps45
    go_wp2_with (first
      | (go_at_call 63; refine (Has_s _ _ _ _).mono ?_; rintro e w' ⟨rfl, hw⟩; rw [hw]; clear hw))
    go_ret
    exact ⟨by simp, by go_grown, by go_grown⟩
theorem spanIn_any (al ah bl bh : Int) (w : World) : Calls Tryz.prog 43 #[.agg #[.int .u64 al, .int .u64 ah], .agg #[.int .u64 bl, .int .u64 bh]] w fun e w' => e = .returned (.bool (decide (ah < al) || ((decide (bl ≤ al) && decide (al ≤ bh)) && (decide (bl ≤ ah) && decide (ah ≤ bh))))) ∧ Gr w w' := by
  cases e0 : decide (ah < al) <;> cases e1 : (decide (bl ≤ al) && decide (al ≤ bh))
  all_goals
    go_enter Tryz.func43, Tryz.ntmps43
    go_wp2_with (first
      | (go_at_call 55; refine (none_u _ _ _).mono ?_; rintro e w' ⟨rfl, hw⟩; rw [hw]; clear hw)
      | (go_at_call 62; refine (Has_u _ _ _ _).mono ?_; rintro e w' ⟨rfl, hw⟩; rw [hw]; clear hw))
    go_ret
    exact ⟨by simp, by go_grown, by go_grown⟩
/-- One of the bound's rows has no number. -/
def nn (ul uh sl sh wl wh vl vh : Int) : Bool := decide (uh < ul) || decide (wh < wl) || decide (sh < sl) || decide (vh < vl)
set_option maxHeartbeats 2000000 in
theorem None_any (tv tm : BitVec 64) (ul uh sl sh wl wh vl vh : Int) (w : World) : Calls Tryz.prog 15 #[.agg #[.int .u64 (iv tv), .int .u64 (iv tm), .int .u64 ul, .int .u64 uh, .int .i64 sl, .int .i64 sh, .int .u64 wl, .int .u64 wh, .int .i64 vl, .int .i64 vh]] w fun e w' => e = .returned (.bool (nn ul uh sl sh wl wh vl vh)) ∧ Gr w w' := by
  unfold nn
  cases e0 : decide (uh < ul) <;> cases e1 : decide (wh < wl) <;> cases e2 : decide (sh < sl) <;> cases e3 : decide (vh < vl)
  all_goals
    go_enter Tryz.func15, Tryz.ntmps15
    go_wp2_with (first
      | (go_at_call 55; refine (none_u _ _ _).mono ?_; rintro e w' ⟨rfl, hw⟩; rw [hw]; clear hw)
      | (go_at_call 56; refine (none_s _ _ _).mono ?_; rintro e w' ⟨rfl, hw⟩; rw [hw]; clear hw))
    go_ret
    exact ⟨by simp, by go_grown, by go_grown⟩
end Go.Proofs.YtcbcijibgpaipaaGreat
