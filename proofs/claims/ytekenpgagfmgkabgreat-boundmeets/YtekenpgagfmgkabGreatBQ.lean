/- Towards the statements of package bound (layer 5): what codes do with bounds: bits taken together, wide; the document's examples. -/
import Derived.Test.YtekenpgagfmgkabGreatBP
import Derived.KernelRfl
namespace Go.Proofs.YtekenpgagfmgkabGreat
open Go.ChangeShapes Go.WideShapes Go.ChangeAt Go.RowKit
open Tn (iv)
set_option linter.unusedVariables false
set_option maxRecDepth 20000

set_option maxHeartbeats 2000000 in
theorem does_wide5 (atv atm : BitVec 64) (aul auh asl ash awl awh avl avh : Int) (btv btm : BitVec 64) (bul buh bsl bsh bwl bwh bvl bvh : Int) (r : Bd) (hr : syncM ⟨atv &&& btv, Tn.andM atv atm btv btm, 0, min auh buh, -9223372036854775808, 9223372036854775807, 0, min awh bwh, -2147483648, 2147483647⟩ = r) (hauh : InU auh) (hbuh : InU buh) (n1 : nn aul auh asl ash awl awh avl avh = false) (n2 : nn bul buh bsl bsh bwl bwh bvl bvh = false) (w : World) : Calls Tryz.prog 47 #[.int .u8 5, .bool true, .agg #[.int .u64 (iv atv), .int .u64 (iv atm), .int .u64 aul, .int .u64 auh, .int .i64 asl, .int .i64 ash, .int .u64 awl, .int .u64 awh, .int .i64 avl, .int .i64 avh], .agg #[.int .u64 (iv btv), .int .u64 (iv btm), .int .u64 bul, .int .u64 buh, .int .i64 bsl, .int .i64 bsh, .int .u64 bwl, .int .u64 bwh, .int .i64 bvl, .int .i64 bvh]] w fun e w' => e = .returned (.tuple #[.agg #[.int .u64 (iv r.tv), .int .u64 (iv r.tm), .int .u64 r.ul, .int .u64 r.uh, .int .i64 r.sl, .int .i64 r.sh, .int .u64 r.wl, .int .u64 r.wh, .int .i64 r.vl, .int .i64 r.vh], .int .i64 0]) ∧ Gr w w' := by
  have HH : Hid (syncM ⟨atv &&& btv, Tn.andM atv atm btv btm, 0, min auh buh, -9223372036854775808, 9223372036854775807, 0, min awh bwh, -2147483648, 2147483647⟩ = r) := hr
  clear hr
  have HA : Hid (AtA (((w.alloc (.cells #[.int .u64 (iv atv), .int .u64 (iv atm), .int .u64 aul, .int .u64 auh, .int .i64 asl, .int .i64 ash, .int .u64 awl, .int .u64 awh, .int .i64 avl, .int .i64 avh] 33)).alloc (.cells #[.int .u64 (iv btv), .int .u64 (iv btm), .int .u64 bul, .int .u64 buh, .int .i64 bsl, .int .i64 bsh, .int .u64 bwl, .int .u64 bwh, .int .i64 bvl, .int .i64 bvh] 33)).alloc (.cells #[.int .u64 0, .int .u64 0, .int .u64 0, .int .u64 0, .int .i64 0, .int .i64 0, .int .u64 0, .int .u64 0, .int .i64 0, .int .i64 0] 33)) w.heap.size #[.int .u64 (iv atv), .int .u64 (iv atm), .int .u64 aul, .int .u64 auh, .int .i64 asl, .int .i64 ash, .int .u64 awl, .int .u64 awh, .int .i64 avl, .int .i64 avh] 33) := ((AtA.newb _ (by simp) _ _).alloc _).alloc _
  have HB : Hid (AtA (((w.alloc (.cells #[.int .u64 (iv atv), .int .u64 (iv atm), .int .u64 aul, .int .u64 auh, .int .i64 asl, .int .i64 ash, .int .u64 awl, .int .u64 awh, .int .i64 avl, .int .i64 avh] 33)).alloc (.cells #[.int .u64 (iv btv), .int .u64 (iv btm), .int .u64 bul, .int .u64 buh, .int .i64 bsl, .int .i64 bsh, .int .u64 bwl, .int .u64 bwh, .int .i64 bvl, .int .i64 bvh] 33)).alloc (.cells #[.int .u64 0, .int .u64 0, .int .u64 0, .int .u64 0, .int .i64 0, .int .i64 0, .int .u64 0, .int .u64 0, .int .i64 0, .int .i64 0] 33)) (w.heap.size + 1) #[.int .u64 (iv btv), .int .u64 (iv btm), .int .u64 bul, .int .u64 buh, .int .i64 bsl, .int .i64 bsh, .int .u64 bwl, .int .u64 bwh, .int .i64 bvl, .int .i64 bvh] 33) := (AtA.newb _ (by simp) _ _).alloc _
  have HR : Hid (AtA (((w.alloc (.cells #[.int .u64 (iv atv), .int .u64 (iv atm), .int .u64 aul, .int .u64 auh, .int .i64 asl, .int .i64 ash, .int .u64 awl, .int .u64 awh, .int .i64 avl, .int .i64 avh] 33)).alloc (.cells #[.int .u64 (iv btv), .int .u64 (iv btm), .int .u64 bul, .int .u64 buh, .int .i64 bsl, .int .i64 bsh, .int .u64 bwl, .int .u64 bwh, .int .i64 bvl, .int .i64 bvh] 33)).alloc (.cells #[.int .u64 0, .int .u64 0, .int .u64 0, .int .u64 0, .int .i64 0, .int .i64 0, .int .u64 0, .int .u64 0, .int .i64 0, .int .i64 0] 33)) (w.heap.size + 1 + 1) #[.int .u64 0, .int .u64 0, .int .u64 0, .int .u64 0, .int .i64 0, .int .i64 0, .int .u64 0, .int .u64 0, .int .i64 0, .int .i64 0] 33) := AtA.newb _ (by simp) _ _
  have HF : Hid (Gr w (((w.alloc (.cells #[.int .u64 (iv atv), .int .u64 (iv atm), .int .u64 aul, .int .u64 auh, .int .i64 asl, .int .i64 ash, .int .u64 awl, .int .u64 awh, .int .i64 avl, .int .i64 avh] 33)).alloc (.cells #[.int .u64 (iv btv), .int .u64 (iv btm), .int .u64 bul, .int .u64 buh, .int .i64 bsl, .int .i64 bsh, .int .u64 bwl, .int .u64 bwh, .int .i64 bvl, .int .i64 bvh] 33)).alloc (.cells #[.int .u64 0, .int .u64 0, .int .u64 0, .int .u64 0, .int .i64 0, .int .i64 0, .int .u64 0, .int .u64 0, .int .i64 0, .int .i64 0] 33))) := (⟨by go_grown, by go_grown⟩ : Gr w _)
  go_enter Tryz.func47, Tryz.ntmps47
  go_upto_region 7 with (first
    | (go_at_call 98; refine (deeds_gr _).mono ?_; rintro e w1 ⟨g, rfl, hb, hg⟩; have hl := look5 w1 g hb; have ha1 : Hid (AtA w1 w.heap.size _ 33) := HA.out.gr hg; have hb1 : Hid (AtA w1 (w.heap.size + 1) _ 33) := HB.out.gr hg; have hr1 : Hid (AtA w1 (w.heap.size + 1 + 1) _ 33) := HR.out.gr hg; have hg1 : Hid (Gr w w1) := HF.out.trans hg; clear hg hb; have a0 := (ha1.out).cell 0; have a1 := (ha1.out).cell 1; have a2 := (ha1.out).cell 2; have a3 := (ha1.out).cell 3; have a4 := (ha1.out).cell 4; have a5 := (ha1.out).cell 5; have a6 := (ha1.out).cell 6; have a7 := (ha1.out).cell 7; have a8 := (ha1.out).cell 8; have a9 := (ha1.out).cell 9; have b0 := (hb1.out).cell 0; have b1 := (hb1.out).cell 1; have b2 := (hb1.out).cell 2; have b3 := (hb1.out).cell 3; have b4 := (hb1.out).cell 4; have b5 := (hb1.out).cell 5; have b6 := (hb1.out).cell 6; have b7 := (hb1.out).cell 7; have b8 := (hb1.out).cell 8; have b9 := (hb1.out).cell 9; simp only [List.getElem?_toArray, List.getElem?_cons_zero, List.getElem?_cons_succ] at a0 a1 a2 a3 a4 a5 a6 a7 a8 a9 b0 b1 b2 b3 b4 b5 b6 b7 b8 b9)
    | (go_at_call 26; refine (None_q _ _ _ _ _ _ _ _ _ _ _ (by with_reducible assumption) _).mono ?_; rintro e w2 ⟨rfl, hg⟩; have ha2 := ha1.out.gr hg; have hb2 := hb1.out.gr hg; have hr2 := hr1.out.gr hg; have hg2 := hg1.out.trans hg; clear ha1 hb1 hr1 hg1 hg; have ha1 : Hid (AtA w2 w.heap.size _ 33) := ha2; have hb1 : Hid (AtA w2 (w.heap.size + 1) _ 33) := hb2; have hr1 : Hid (AtA w2 (w.heap.size + 1 + 1) _ 33) := hr2; have hg1 : Hid (Gr w w2) := hg2; clear ha2 hb2 hr2 hg2; clear a0 a1 a2 a3 a4 a5 a6 a7 a8 a9 b0 b1 b2 b3 b4 b5 b6 b7 b8 b9; have a0 := (ha1.out).cell 0; have a1 := (ha1.out).cell 1; have a2 := (ha1.out).cell 2; have a3 := (ha1.out).cell 3; have a4 := (ha1.out).cell 4; have a5 := (ha1.out).cell 5; have a6 := (ha1.out).cell 6; have a7 := (ha1.out).cell 7; have a8 := (ha1.out).cell 8; have a9 := (ha1.out).cell 9; have b0 := (hb1.out).cell 0; have b1 := (hb1.out).cell 1; have b2 := (hb1.out).cell 2; have b3 := (hb1.out).cell 3; have b4 := (hb1.out).cell 4; have b5 := (hb1.out).cell 5; have b6 := (hb1.out).cell 6; have b7 := (hb1.out).cell 7; have b8 := (hb1.out).cell 8; have b9 := (hb1.out).cell 9; simp only [List.getElem?_toArray, List.getElem?_cons_zero, List.getElem?_cons_succ] at a0 a1 a2 a3 a4 a5 a6 a7 a8 a9 b0 b1 b2 b3 b4 b5 b6 b7 b8 b9))
  go_wp2_with (first
    | (go_at_call 162; refine (anded_any atv atm aul auh asl ash awl awh avl avh btv btm bul buh bsl bsh bwl bwh bvl bvh r HH.out hauh hbuh _).mono ?_; rintro e w3 ⟨rfl, hg⟩; have hr : Hid (AtA w3 (w.heap.size + 1 + 1) _ 33) := hr1.out.gr hg; have hG : Hid (Gr w w3) := hg1.out.trans hg; clear hg
       have f0 := (hr.out).f 0
       have f1 := (hr.out).f 1
       have f2 := (hr.out).f 2
       have f3 := (hr.out).f 3
       have f4 := (hr.out).f 4
       have f5 := (hr.out).f 5
       have f6 := (hr.out).f 6
       have f7 := (hr.out).f 7
       have f8 := (hr.out).f 8
       have f9 := (hr.out).f 9
       have d0 := (hr.out).cell 0
       have d1 := (hr.out).cell 1
       have d2 := (hr.out).cell 2
       have d3 := (hr.out).cell 3
       have d4 := (hr.out).cell 4
       have d5 := (hr.out).cell 5
       have d6 := (hr.out).cell 6
       have d7 := (hr.out).cell 7
       have d8 := (hr.out).cell 8
       have d9 := (hr.out).cell 9
       simp only [List.getElem?_toArray, List.getElem?_cons_zero, List.getElem?_cons_succ] at d0 d1 d2 d3 d4 d5 d6 d7 d8 d9
       have hz := (((((((((((hr.out).st 0 (.int .u64 (iv r.tv))).st 1 (.int .u64 (iv r.tm))).st 2 (.int .u64 r.ul)).st 3 (.int .u64 r.uh)).st 4 (.int .i64 r.sl)).st 5 (.int .i64 r.sh)).st 6 (.int .u64 r.wl)).st 7 (.int .u64 r.wh)).st 8 (.int .i64 r.vl)).st 9 (.int .i64 r.vh))
       simp only [List.setIfInBounds_toArray, List.set_cons_zero, List.set_cons_succ] at hz
       have e0 := hz.cell 0
       have e1 := hz.cell 1
       have e2 := hz.cell 2
       have e3 := hz.cell 3
       have e4 := hz.cell 4
       have e5 := hz.cell 5
       have e6 := hz.cell 6
       have e7 := hz.cell 7
       have e8 := hz.cell 8
       have e9 := hz.cell 9
       simp only [List.getElem?_toArray, List.getElem?_cons_zero, List.getElem?_cons_succ] at e0 e1 e2 e3 e4 e5 e6 e7 e8 e9
       clear hz
))
  refine bodyPost_ret (by simp [results, Tryz.results47, go_sem, e0, e1, e2, e3, e4, e5, e6, e7, e8, e9]; try rfl) rfl ?_
  exact ⟨rfl, ((((((((((hG.out.set (by omega) _).set (by omega) _).set (by omega) _).set (by omega) _).set (by omega) _).set (by omega) _).set (by omega) _).set (by omega) _).set (by omega) _).set (by omega) _)⟩
theorem rhalf (w : World) : Calls Tryz.prog 91 #[] w fun e w' => e = .returned (.agg #[.int .u64 0, .int .u64 4294967295]) ∧ w' = w.alloc (.cells #[.int .u64 0, .int .u64 4294967295] 29) := by
  go_enter Tryz.func91, Tryz.ntmps91
  go_wp2
  go_returns
  exact ⟨rfl, rfl⟩
theorem rsigned (w : World) : Calls Tryz.prog 92 #[] w fun e w' => e = .returned (.agg #[.int .i64 (-2147483648), .int .i64 2147483647]) ∧ w' = w.alloc (.cells #[.int .i64 (-2147483648), .int .i64 2147483647] 31) := by
  go_enter Tryz.func92, Tryz.ntmps92
  go_wp2
  go_returns
  exact ⟨rfl, rfl⟩
theorem rany (w : World) : Calls Tryz.prog 36 #[] w fun e w' => e = .returned (.agg #[.int .u64 0, .int .u64 18446744073709551615, .int .u64 0, .int .u64 18446744073709551615, .int .i64 (-9223372036854775808), .int .i64 9223372036854775807, .int .u64 0, .int .u64 4294967295, .int .i64 (-2147483648), .int .i64 2147483647]) ∧ Gr w w' := by
  go_enter Tryz.func36, Tryz.ntmps36
  go_wp2_with (first
    | (go_at_call 89; refine (rfull _).mono ?_; rintro e w' ⟨rfl, hw⟩; rw [hw]; clear hw)
    | (go_at_call 90; refine (rall _).mono ?_; rintro e w' ⟨rfl, hw⟩; rw [hw]; clear hw)
    | (go_at_call 91; refine (rhalf _).mono ?_; rintro e w' ⟨rfl, hw⟩; rw [hw]; clear hw)
    | (go_at_call 92; refine (rsigned _).mono ?_; rintro e w' ⟨rfl, hw⟩; rw [hw]; clear hw))
  go_returns
  exact ⟨rfl, by go_grown, by go_grown⟩
theorem rnothing (w : World) : Calls Tryz.prog 52 #[] w fun e w' => e = .returned (.agg #[.int .u64 0, .int .u64 0, .int .u64 1, .int .u64 0, .int .i64 1, .int .i64 0, .int .u64 1, .int .u64 0, .int .i64 1, .int .i64 0]) ∧ Gr w w' := by
  go_enter Tryz.func52, Tryz.ntmps52
  go_wp2_with (first
    | (go_at_call 102; refine (rnothing_u _).mono ?_; rintro e w' ⟨rfl, hw⟩; rw [hw]; clear hw)
    | (go_at_call 103; refine (rnothing_s _).mono ?_; rintro e w' ⟨rfl, hw⟩; rw [hw]; clear hw))
  go_returns
  exact ⟨rfl, by go_grown, by go_grown⟩
theorem works_r : syncM ⟨0#64 &&& 7#64, Tn.andM 0#64 18446744073709551615#64 7#64 0#64, 0, min 18446744073709551615 7, -9223372036854775808, 9223372036854775807, 0, min 4294967295 7, -2147483648, 2147483647⟩ = ⟨0#64, 7#64, 0, 7, 0, 7, 0, 7, 0, 7⟩ := by
  kernel_rfl
theorem w_const5 (w : World) : Calls Tryz.prog 14 #[.int .u64 5] w fun e w' => e = .returned (.agg #[.int .u64 5, .int .u64 0, .int .u64 5, .int .u64 5, .int .i64 5, .int .i64 5, .int .u64 5, .int .u64 5, .int .i64 5, .int .i64 5]) ∧ Gr w w' := by
  have k := const_any 5#64 w
  rw [show wrap64 (iv 5#64) = 5 by kernel_rfl, show iv 5#64 % 4294967296 = 5 by kernel_rfl, show sg (iv 5#64) = 5 by kernel_rfl] at k
  exact k
theorem w_const7 (w : World) : Calls Tryz.prog 14 #[.int .u64 7] w fun e w' => e = .returned (.agg #[.int .u64 7, .int .u64 0, .int .u64 7, .int .u64 7, .int .i64 7, .int .i64 7, .int .u64 7, .int .u64 7, .int .i64 7, .int .i64 7]) ∧ Gr w w' := by
  have k := const_any 7#64 w
  rw [show wrap64 (iv 7#64) = 7 by kernel_rfl, show iv 7#64 % 4294967296 = 7 by kernel_rfl, show sg (iv 7#64) = 7 by kernel_rfl] at k
  exact k
theorem w_any (w : World) : Calls Tryz.prog 17 #[] w fun e w' => e = .returned (.agg #[.int .u64 0, .int .u64 18446744073709551615, .int .u64 0, .int .u64 18446744073709551615, .int .i64 (-9223372036854775808), .int .i64 9223372036854775807, .int .u64 0, .int .u64 4294967295, .int .i64 (-2147483648), .int .i64 2147483647]) ∧ Gr w w' := any_any w
theorem w_and (w : World) : Calls Tryz.prog 47 #[.int .u8 5, .bool true, .agg #[.int .u64 0, .int .u64 18446744073709551615, .int .u64 0, .int .u64 18446744073709551615, .int .i64 (-9223372036854775808), .int .i64 9223372036854775807, .int .u64 0, .int .u64 4294967295, .int .i64 (-2147483648), .int .i64 2147483647], .agg #[.int .u64 7, .int .u64 0, .int .u64 7, .int .u64 7, .int .i64 7, .int .i64 7, .int .u64 7, .int .u64 7, .int .i64 7, .int .i64 7]] w fun e w' => e = .returned (.tuple #[.agg #[.int .u64 0, .int .u64 7, .int .u64 0, .int .u64 7, .int .i64 0, .int .i64 7, .int .u64 0, .int .u64 7, .int .i64 0, .int .i64 7], .int .i64 0]) ∧ Gr w w' :=
  does_wide5 0#64 18446744073709551615#64 0 18446744073709551615 (-9223372036854775808) 9223372036854775807 0 4294967295 (-2147483648) 2147483647 7#64 0#64 7 7 7 7 7 7 7 7 _ works_r inU_f (by unfold InU; omega) (by decide) (by decide) w
theorem w_none (w : World) : Calls Tryz.prog 47 #[.int .u8 15, .bool true, .agg #[.int .u64 5, .int .u64 0, .int .u64 5, .int .u64 5, .int .i64 5, .int .i64 5, .int .u64 5, .int .u64 5, .int .i64 5, .int .i64 5], .agg #[.int .u64 5, .int .u64 0, .int .u64 5, .int .u64 5, .int .i64 5, .int .i64 5, .int .u64 5, .int .u64 5, .int .i64 5, .int .i64 5]] w fun e w' => e = .returned (.tuple #[.agg #[.int .u64 0, .int .u64 0, .int .u64 0, .int .u64 0, .int .i64 0, .int .i64 0, .int .u64 0, .int .u64 0, .int .i64 0, .int .i64 0], .int .i64 20]) ∧ Gr w w' :=
  does_no 5#64 0#64 5 5 5 5 5 5 5 5 5#64 0#64 5 5 5 5 5 5 5 5 15 true (by decide) w
theorem one_q (tv tm : BitVec 64) (ul uh sl sh wl wh vl vh : Int) (q : Bool) (h : ((tm == 0#64) && (tv &&& ~~~tm == tv && (decide (ul ≤ iv tv) && decide (iv tv ≤ uh)) && (decide (sl ≤ wrap64 (iv tv)) && decide (wrap64 (iv tv) ≤ sh)) && (decide (wl ≤ iv tv % 4294967296) && decide (iv tv % 4294967296 ≤ wh)) && (decide (vl ≤ sg (iv tv)) && decide (sg (iv tv) ≤ vh)))) = q) (w : World) : Calls Tryz.prog 16 #[.agg #[.int .u64 (iv tv), .int .u64 (iv tm), .int .u64 ul, .int .u64 uh, .int .i64 sl, .int .i64 sh, .int .u64 wl, .int .u64 wh, .int .i64 vl, .int .i64 vh]] w fun e w' => e = .returned (.tuple #[.int .u64 (eN q (iv tv) 0), .bool q]) ∧ Gr w w' := h ▸ one_any tv tm ul uh sl sh wl wh vl vh w
theorem w_one (w : World) : Calls Tryz.prog 16 #[.agg #[.int .u64 5, .int .u64 0, .int .u64 5, .int .u64 5, .int .i64 5, .int .i64 5, .int .u64 5, .int .u64 5, .int .i64 5, .int .i64 5]] w fun e w' => e = .returned (.tuple #[.int .u64 5, .bool true]) ∧ Gr w w' :=
  one_q 5#64 0#64 5 5 5 5 5 5 5 5 true (by kernel_rfl) w
theorem w_has5 (w : World) : Calls Tryz.prog 13 #[.agg #[.int .u64 5, .int .u64 0, .int .u64 5, .int .u64 5, .int .i64 5, .int .i64 5, .int .u64 5, .int .u64 5, .int .i64 5, .int .i64 5], .int .u64 5] w fun e w' => e = .returned (.bool true) ∧ Gr w w' :=
  has_q 5#64 0#64 5 5 5 5 5 5 5 5 5#64 true (by kernel_rfl) w
theorem w_has6 (w : World) : Calls Tryz.prog 13 #[.agg #[.int .u64 5, .int .u64 0, .int .u64 5, .int .u64 5, .int .i64 5, .int .i64 5, .int .u64 5, .int .u64 5, .int .i64 5, .int .i64 5], .int .u64 6] w fun e w' => e = .returned (.bool false) ∧ Gr w w' :=
  has_q 5#64 0#64 5 5 5 5 5 5 5 5 6#64 false (by kernel_rfl) w
theorem w_some (w : World) : Calls Tryz.prog 26 #[.agg #[.int .u64 0, .int .u64 7, .int .u64 0, .int .u64 7, .int .i64 0, .int .i64 7, .int .u64 0, .int .u64 7, .int .i64 0, .int .i64 7]] w fun e w' => e = .returned (.bool false) ∧ Gr w w' :=
  None_q 0#64 7#64 0 7 0 7 0 7 0 7 false (by decide) w
end Go.Proofs.YtekenpgagfmgkabGreat
