/- Towards the statements of package bound (layer 5): halves, ends, and signs, as the program has them. -/
import Derived.Test.YtcbcijibgpaipaaGreatBA
namespace Go.Proofs.YtcbcijibgpaipaaGreat
open Go.ChangeShapes Go.WideShapes Go.ChangeAt Go.RowKit
open Tn (iv)
set_option linter.unusedVariables false
set_option maxRecDepth 20000

theorem half_any (w : World) : Calls Tryz.prog 44 #[] w fun e w' => e = .returned (.agg #[.int .u64 0, .int .u64 4294967295]) ∧ w' = w.alloc (.cells #[.int .u64 0, .int .u64 4294967295] 26) := by
  go_enter Tryz.func44, Tryz.ntmps44
  go_wp2
  go_returns
  exact ⟨rfl, rfl⟩
theorem shalf_any (w : World) : Calls Tryz.prog 46 #[] w fun e w' => e = .returned (.agg #[.int .i64 (-2147483648), .int .i64 2147483647]) ∧ w' = w.alloc (.cells #[.int .i64 (-2147483648), .int .i64 2147483647] 28) := by
  go_enter Tryz.func46, Tryz.ntmps46
  go_wp2
  go_returns
  exact ⟨rfl, rfl⟩
theorem lower_any (x : Int) (h : InU x) (w : World) : Calls Tryz.prog 52 #[.int .u64 x] w fun e w' => e = .returned (.int .u64 (x % 4294967296)) ∧ w' = w := by
  have e := and_low x h
  go_enter Tryz.func52, Tryz.ntmps52
  go_wp2
  go_ret
  exact ⟨rfl, rfl⟩
theorem slower_any (x : Int) (w : World) : Calls Tryz.prog 53 #[.int .u64 x] w fun e w' => e = .returned (.int .i64 (sg x)) ∧ w' = w := by
  have e := i32_sg x
  go_enter Tryz.func53, Tryz.ntmps53
  go_wp2
  go_ret
  exact ⟨by show Ending.returned (Value.int _ (wrap64 (sg x))) = _; rw [w64_sg], rfl⟩
theorem wsign32 (x : Int) (w : World) : Calls Tryz.prog 196 #[.int .u64 x, .int .u64 32] w fun e w' => e = .returned (.int .i64 (sg x)) ∧ w' = w := by
  go_enter Tryz.func196, Tryz.ntmps196
  go_wp2_with (first
    | (go_at_call 53; refine (slower_any _ _).mono ?_; rintro e w' ⟨rfl, hw⟩; rw [hw]; clear hw))
  go_ret
  exact ⟨rfl, rfl⟩
theorem wsign64 (x : Int) (w : World) : Calls Tryz.prog 196 #[.int .u64 x, .int .u64 64] w fun e w' => e = .returned (.int .i64 (wrap64 x)) ∧ w' = w := by
  go_enter Tryz.func196, Tryz.ntmps196
  go_wp2
  go_ret
  exact ⟨rfl, rfl⟩
theorem ends_any (v m : BitVec 64) (w : World) : Calls Tryz.prog 94 #[.agg #[.int .u64 (iv v), .int .u64 (iv m)]] w fun e w' => e = .returned (.agg #[.int .u64 (iv v), .int .u64 (iv (v ||| m))]) ∧ Gr w w' := by
  have e1 := Tn.iv_or v m
  go_enter Tryz.func94, Tryz.ntmps94
  go_wp2
  go_returns
  exact ⟨rfl, by go_grown, by go_grown⟩
set_option maxHeartbeats 2000000 in
theorem sends64 (v m : BitVec 64) (w : World) : Calls Tryz.prog 97 #[.agg #[.int .u64 (iv v), .int .u64 (iv m)], .int .u64 64] w fun e w' => e = .returned (.agg #[.int .i64 (wrap64 (iv (v ||| m &&& 9223372036854775808#64))), .int .i64 (wrap64 (iv (v ||| m &&& 9223372036854775807#64)))]) ∧ Gr w w' := by
  have e1 : bits .and .u64 (iv m) 9223372036854775808 = iv (m &&& 9223372036854775808#64) := Tn.iv_and m 9223372036854775808#64
  have e2 : bits .andNot .u64 (iv m) 9223372036854775808 = iv (m &&& 9223372036854775807#64) := Tn.iv_andNot m 9223372036854775808#64
  have e3 := Tn.iv_or v (m &&& 9223372036854775808#64)
  have e4 := Tn.iv_or v (m &&& 9223372036854775807#64)
  have HA : AtA ((w.alloc (.cells #[.int .u64 (iv v), .int .u64 (iv m)] 24)).alloc (.cells #[.int .i64 0, .int .i64 0] 28)) w.heap.size #[.int .u64 (iv v), .int .u64 (iv m)] 24 := (AtA.newb _ rfl _ _).alloc _
  have a0 := HA.cell 0
  have a1 := HA.cell 1
  have HB : AtA (w.alloc (.cells #[.int .u64 (iv v), .int .u64 (iv m)] 24)) w.heap.size #[.int .u64 (iv v), .int .u64 (iv m)] 24 := AtA.newb _ rfl _ _
  have b0 := HB.cell 0
  have b1 := HB.cell 1
  simp only [List.getElem?_toArray, List.getElem?_cons_zero, List.getElem?_cons_succ] at a0 a1 b0 b1
  clear HA HB
  go_enter Tryz.func97, Tryz.ntmps97
  go_wp2_with fail
  go_region_held3 (fun w' => w'.cell? ⟨w.heap.size, 0, none⟩ = some (.int .u64 (iv v)) ∧ w'.cell? ⟨w.heap.size, 1, none⟩ = some (.int .u64 (iv m))) ((refine ⟨?_, ?_⟩ <;> repeat (with_reducible (first | assumption | apply cell_al | apply cell_dr | (refine cell_gr (by assumption) ?_) | (refine cst (by simp <;> omega) ?_)))))
    (first
    | (go_at_call 196; refine (wsign64 _ _).mono ?_; rintro e w' ⟨rfl, hw⟩; rw [hw]; clear hw))
  all_goals go_wp2_with fail
  all_goals go_returns
  all_goals exact ⟨rfl, by go_grown, by go_grown⟩
set_option maxHeartbeats 2000000 in
theorem sends32 (v m : BitVec 64) (w : World) : Calls Tryz.prog 97 #[.agg #[.int .u64 (iv v), .int .u64 (iv m)], .int .u64 32] w fun e w' => e = .returned (.agg #[.int .i64 (sg (iv (v ||| m &&& 2147483648#64))), .int .i64 (sg (iv (v ||| m &&& 18446744071562067967#64)))]) ∧ Gr w w' := by
  have e1 : bits .and .u64 (iv m) 2147483648 = iv (m &&& 2147483648#64) := Tn.iv_and m 2147483648#64
  have e2 : bits .andNot .u64 (iv m) 2147483648 = iv (m &&& 18446744071562067967#64) := Tn.iv_andNot m 2147483648#64
  have e3 := Tn.iv_or v (m &&& 2147483648#64)
  have e4 := Tn.iv_or v (m &&& 18446744071562067967#64)
  have HA : AtA ((w.alloc (.cells #[.int .u64 (iv v), .int .u64 (iv m)] 24)).alloc (.cells #[.int .i64 0, .int .i64 0] 28)) w.heap.size #[.int .u64 (iv v), .int .u64 (iv m)] 24 := (AtA.newb _ rfl _ _).alloc _
  have a0 := HA.cell 0
  have a1 := HA.cell 1
  have HB : AtA (w.alloc (.cells #[.int .u64 (iv v), .int .u64 (iv m)] 24)) w.heap.size #[.int .u64 (iv v), .int .u64 (iv m)] 24 := AtA.newb _ rfl _ _
  have b0 := HB.cell 0
  have b1 := HB.cell 1
  simp only [List.getElem?_toArray, List.getElem?_cons_zero, List.getElem?_cons_succ] at a0 a1 b0 b1
  clear HA HB
  go_enter Tryz.func97, Tryz.ntmps97
  go_wp2_with fail
  go_region_held3 (fun w' => w'.cell? ⟨w.heap.size, 0, none⟩ = some (.int .u64 (iv v)) ∧ w'.cell? ⟨w.heap.size, 1, none⟩ = some (.int .u64 (iv m))) ((refine ⟨?_, ?_⟩ <;> repeat (with_reducible (first | assumption | apply cell_al | apply cell_dr | (refine cell_gr (by assumption) ?_) | (refine cst (by simp <;> omega) ?_)))))
    (first
    | (go_at_call 196; refine (wsign32 _ _).mono ?_; rintro e w' ⟨rfl, hw⟩; rw [hw]; clear hw))
  all_goals go_wp2_with fail
  all_goals go_returns
  all_goals exact ⟨rfl, by go_grown, by go_grown⟩
end Go.Proofs.YtcbcijibgpaipaaGreat
