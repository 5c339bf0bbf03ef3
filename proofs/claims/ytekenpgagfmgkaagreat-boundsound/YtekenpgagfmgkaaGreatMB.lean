/- Towards the statements of package bound (layer 5): what codes do with bounds: bits taken together, wide; the document's examples. Towards the statements of package bound (layer 5): the document's examples. Towards the statements of package bound (layer 5): what two bounds have in common, and the lowest bits, of bounds without a number; as the program has them. Towards the statements of package bound (layer 5): a bound about a number, as it is told. Towards the statements of package bound (layer 5): what two bounds have in common, as the program has it. Towards the statements of package bound (layer 5): a bound's cells as one word; the calls' contracts in that word. Regions whose operations only read, and whose calls make memory at most, operation by operation: of open order, or of the text's. -/
import Derived.Test.YtekenpgagfmgkaaGreatBPs
import Derived.KernelRfl
import Derived.Deep.DeepCutAuto
import Derived.Test.YtekenpgagfmgkaaGreatBW
import Derived.Test.YtekenpgagfmgkaaGreatMA
import Derived.Test.YtekenpgagfmgkaaGreatBI
import Derived.Test.YtekenpgagfmgkaaGreatBL
section
namespace Go.Proofs.YtekenpgagfmgkaaGreat
open Go.ChangeShapes Go.WideShapes Go.ChangeAt Go.RowKit
open Tn (iv)
set_option linter.unusedVariables false
set_option maxRecDepth 20000

set_option maxHeartbeats 2000000 in
theorem does_wide5 (atv atm : BitVec 64) (aul auh asl ash awl awh avl avh : Int) (btv btm : BitVec 64) (bul buh bsl bsh bwl bwh bvl bvh : Int) (r : Bd) (hr : syncM ⟨atv &&& btv, Tn.andM atv atm btv btm, 0, min auh buh, -9223372036854775808, 9223372036854775807, 0, min awh bwh, -2147483648, 2147483647⟩ = r) (hauh : InU auh) (hbuh : InU buh) (n1 : nn aul auh asl ash awl awh avl avh = false) (n2 : nn bul buh bsl bsh bwl bwh bvl bvh = false) (w : World) : Calls Tryz.prog 24 #[.int .u8 5, .bool true, .agg #[.int .u64 (iv atv), .int .u64 (iv atm), .int .u64 aul, .int .u64 auh, .int .i64 asl, .int .i64 ash, .int .u64 awl, .int .u64 awh, .int .i64 avl, .int .i64 avh], .agg #[.int .u64 (iv btv), .int .u64 (iv btm), .int .u64 bul, .int .u64 buh, .int .i64 bsl, .int .i64 bsh, .int .u64 bwl, .int .u64 bwh, .int .i64 bvl, .int .i64 bvh]] w fun e w' => e = .returned (.tuple #[.agg #[.int .u64 (iv r.tv), .int .u64 (iv r.tm), .int .u64 r.ul, .int .u64 r.uh, .int .i64 r.sl, .int .i64 r.sh, .int .u64 r.wl, .int .u64 r.wh, .int .i64 r.vl, .int .i64 r.vh], .int .i64 0]) ∧ Gr w w' := by
  have HH : Hid (syncM ⟨atv &&& btv, Tn.andM atv atm btv btm, 0, min auh buh, -9223372036854775808, 9223372036854775807, 0, min awh bwh, -2147483648, 2147483647⟩ = r) := hr
  clear hr
  have HA : Hid (AtA (((w.alloc (.cells #[.int .u64 (iv atv), .int .u64 (iv atm), .int .u64 aul, .int .u64 auh, .int .i64 asl, .int .i64 ash, .int .u64 awl, .int .u64 awh, .int .i64 avl, .int .i64 avh] 30)).alloc (.cells #[.int .u64 (iv btv), .int .u64 (iv btm), .int .u64 bul, .int .u64 buh, .int .i64 bsl, .int .i64 bsh, .int .u64 bwl, .int .u64 bwh, .int .i64 bvl, .int .i64 bvh] 30)).alloc (.cells #[.int .u64 0, .int .u64 0, .int .u64 0, .int .u64 0, .int .i64 0, .int .i64 0, .int .u64 0, .int .u64 0, .int .i64 0, .int .i64 0] 30)) w.heap.size #[.int .u64 (iv atv), .int .u64 (iv atm), .int .u64 aul, .int .u64 auh, .int .i64 asl, .int .i64 ash, .int .u64 awl, .int .u64 awh, .int .i64 avl, .int .i64 avh] 30) := ((AtA.newb _ (by simp) _ _).alloc _).alloc _
  have HB : Hid (AtA (((w.alloc (.cells #[.int .u64 (iv atv), .int .u64 (iv atm), .int .u64 aul, .int .u64 auh, .int .i64 asl, .int .i64 ash, .int .u64 awl, .int .u64 awh, .int .i64 avl, .int .i64 avh] 30)).alloc (.cells #[.int .u64 (iv btv), .int .u64 (iv btm), .int .u64 bul, .int .u64 buh, .int .i64 bsl, .int .i64 bsh, .int .u64 bwl, .int .u64 bwh, .int .i64 bvl, .int .i64 bvh] 30)).alloc (.cells #[.int .u64 0, .int .u64 0, .int .u64 0, .int .u64 0, .int .i64 0, .int .i64 0, .int .u64 0, .int .u64 0, .int .i64 0, .int .i64 0] 30)) (w.heap.size + 1) #[.int .u64 (iv btv), .int .u64 (iv btm), .int .u64 bul, .int .u64 buh, .int .i64 bsl, .int .i64 bsh, .int .u64 bwl, .int .u64 bwh, .int .i64 bvl, .int .i64 bvh] 30) := (AtA.newb _ (by simp) _ _).alloc _
  have HR : Hid (AtA (((w.alloc (.cells #[.int .u64 (iv atv), .int .u64 (iv atm), .int .u64 aul, .int .u64 auh, .int .i64 asl, .int .i64 ash, .int .u64 awl, .int .u64 awh, .int .i64 avl, .int .i64 avh] 30)).alloc (.cells #[.int .u64 (iv btv), .int .u64 (iv btm), .int .u64 bul, .int .u64 buh, .int .i64 bsl, .int .i64 bsh, .int .u64 bwl, .int .u64 bwh, .int .i64 bvl, .int .i64 bvh] 30)).alloc (.cells #[.int .u64 0, .int .u64 0, .int .u64 0, .int .u64 0, .int .i64 0, .int .i64 0, .int .u64 0, .int .u64 0, .int .i64 0, .int .i64 0] 30)) (w.heap.size + 1 + 1) #[.int .u64 0, .int .u64 0, .int .u64 0, .int .u64 0, .int .i64 0, .int .i64 0, .int .u64 0, .int .u64 0, .int .i64 0, .int .i64 0] 30) := AtA.newb _ (by simp) _ _
  have HF : Hid (Gr w (((w.alloc (.cells #[.int .u64 (iv atv), .int .u64 (iv atm), .int .u64 aul, .int .u64 auh, .int .i64 asl, .int .i64 ash, .int .u64 awl, .int .u64 awh, .int .i64 avl, .int .i64 avh] 30)).alloc (.cells #[.int .u64 (iv btv), .int .u64 (iv btm), .int .u64 bul, .int .u64 buh, .int .i64 bsl, .int .i64 bsh, .int .u64 bwl, .int .u64 bwh, .int .i64 bvl, .int .i64 bvh] 30)).alloc (.cells #[.int .u64 0, .int .u64 0, .int .u64 0, .int .u64 0, .int .i64 0, .int .i64 0, .int .u64 0, .int .u64 0, .int .i64 0, .int .i64 0] 30))) := (⟨by go_grown, by go_grown⟩ : Gr w _)
  go_enter Tryz.func24, Tryz.ntmps24
  go_upto_region 7 with (first
    | (go_at_call 64; refine (deeds_gr _).mono ?_; rintro e w1 ⟨g, rfl, hb, hg⟩; have hl := look5 w1 g hb; have ha1 : Hid (AtA w1 w.heap.size _ 30) := HA.out.gr hg; have hb1 : Hid (AtA w1 (w.heap.size + 1) _ 30) := HB.out.gr hg; have hr1 : Hid (AtA w1 (w.heap.size + 1 + 1) _ 30) := HR.out.gr hg; have hg1 : Hid (Gr w w1) := HF.out.trans hg; clear hg hb; have a0 := (ha1.out).cell 0; have a1 := (ha1.out).cell 1; have a2 := (ha1.out).cell 2; have a3 := (ha1.out).cell 3; have a4 := (ha1.out).cell 4; have a5 := (ha1.out).cell 5; have a6 := (ha1.out).cell 6; have a7 := (ha1.out).cell 7; have a8 := (ha1.out).cell 8; have a9 := (ha1.out).cell 9; have b0 := (hb1.out).cell 0; have b1 := (hb1.out).cell 1; have b2 := (hb1.out).cell 2; have b3 := (hb1.out).cell 3; have b4 := (hb1.out).cell 4; have b5 := (hb1.out).cell 5; have b6 := (hb1.out).cell 6; have b7 := (hb1.out).cell 7; have b8 := (hb1.out).cell 8; have b9 := (hb1.out).cell 9; simp only [List.getElem?_toArray, List.getElem?_cons_zero, List.getElem?_cons_succ] at a0 a1 a2 a3 a4 a5 a6 a7 a8 a9 b0 b1 b2 b3 b4 b5 b6 b7 b8 b9)
    | (go_at_call 15; refine (None_q _ _ _ _ _ _ _ _ _ _ _ (by with_reducible assumption) _).mono ?_; rintro e w2 ⟨rfl, hg⟩; have ha2 := ha1.out.gr hg; have hb2 := hb1.out.gr hg; have hr2 := hr1.out.gr hg; have hg2 := hg1.out.trans hg; clear ha1 hb1 hr1 hg1 hg; have ha1 : Hid (AtA w2 w.heap.size _ 30) := ha2; have hb1 : Hid (AtA w2 (w.heap.size + 1) _ 30) := hb2; have hr1 : Hid (AtA w2 (w.heap.size + 1 + 1) _ 30) := hr2; have hg1 : Hid (Gr w w2) := hg2; clear ha2 hb2 hr2 hg2; clear a0 a1 a2 a3 a4 a5 a6 a7 a8 a9 b0 b1 b2 b3 b4 b5 b6 b7 b8 b9; have a0 := (ha1.out).cell 0; have a1 := (ha1.out).cell 1; have a2 := (ha1.out).cell 2; have a3 := (ha1.out).cell 3; have a4 := (ha1.out).cell 4; have a5 := (ha1.out).cell 5; have a6 := (ha1.out).cell 6; have a7 := (ha1.out).cell 7; have a8 := (ha1.out).cell 8; have a9 := (ha1.out).cell 9; have b0 := (hb1.out).cell 0; have b1 := (hb1.out).cell 1; have b2 := (hb1.out).cell 2; have b3 := (hb1.out).cell 3; have b4 := (hb1.out).cell 4; have b5 := (hb1.out).cell 5; have b6 := (hb1.out).cell 6; have b7 := (hb1.out).cell 7; have b8 := (hb1.out).cell 8; have b9 := (hb1.out).cell 9; simp only [List.getElem?_toArray, List.getElem?_cons_zero, List.getElem?_cons_succ] at a0 a1 a2 a3 a4 a5 a6 a7 a8 a9 b0 b1 b2 b3 b4 b5 b6 b7 b8 b9))
  go_wp2_with (first
    | (go_at_call 130; refine (anded_any atv atm aul auh asl ash awl awh avl avh btv btm bul buh bsl bsh bwl bwh bvl bvh r HH.out hauh hbuh _).mono ?_; rintro e w3 ⟨rfl, hg⟩; have hr : Hid (AtA w3 (w.heap.size + 1 + 1) _ 30) := hr1.out.gr hg; have hG : Hid (Gr w w3) := hg1.out.trans hg; clear hg
       have f0 := (hr.out).f 0
       have f1 := (hr.out).f 1
       have f2 := (hr.out).f 2
       have f3 := (hr.out).f 3
       have f4 := (hr.out).f 4
       have f5 := (hr.out).f 5
       have f6 := (hr.out).f 6
       have f7 := (hr.out).f 7
       have f8 := (hr.out).f 8
       have f9 := (hr.out).f 9
       have d0 := (hr.out).cell 0
       have d1 := (hr.out).cell 1
       have d2 := (hr.out).cell 2
       have d3 := (hr.out).cell 3
       have d4 := (hr.out).cell 4
       have d5 := (hr.out).cell 5
       have d6 := (hr.out).cell 6
       have d7 := (hr.out).cell 7
       have d8 := (hr.out).cell 8
       have d9 := (hr.out).cell 9
       simp only [List.getElem?_toArray, List.getElem?_cons_zero, List.getElem?_cons_succ] at d0 d1 d2 d3 d4 d5 d6 d7 d8 d9
       have hz := (((((((((((hr.out).st 0 (.int .u64 (iv r.tv))).st 1 (.int .u64 (iv r.tm))).st 2 (.int .u64 r.ul)).st 3 (.int .u64 r.uh)).st 4 (.int .i64 r.sl)).st 5 (.int .i64 r.sh)).st 6 (.int .u64 r.wl)).st 7 (.int .u64 r.wh)).st 8 (.int .i64 r.vl)).st 9 (.int .i64 r.vh))
       simp only [List.setIfInBounds_toArray, List.set_cons_zero, List.set_cons_succ] at hz
       have e0 := hz.cell 0
       have e1 := hz.cell 1
       have e2 := hz.cell 2
       have e3 := hz.cell 3
       have e4 := hz.cell 4
       have e5 := hz.cell 5
       have e6 := hz.cell 6
       have e7 := hz.cell 7
       have e8 := hz.cell 8
       have e9 := hz.cell 9
       simp only [List.getElem?_toArray, List.getElem?_cons_zero, List.getElem?_cons_succ] at e0 e1 e2 e3 e4 e5 e6 e7 e8 e9
       clear hz
))
  refine bodyPost_ret (by simp [results, Tryz.results24, go_sem, e0, e1, e2, e3, e4, e5, e6, e7, e8, e9]; try rfl) rfl ?_
  exact ⟨rfl, ((((((((((hG.out.set (by omega) _).set (by omega) _).set (by omega) _).set (by omega) _).set (by omega) _).set (by omega) _).set (by omega) _).set (by omega) _).set (by omega) _).set (by omega) _)⟩
theorem rhalf (w : World) : Calls Tryz.prog 112 #[] w fun e w' => e = .returned (.agg #[.int .u64 0, .int .u64 4294967295]) ∧ w' = w.alloc (.cells #[.int .u64 0, .int .u64 4294967295] 26) := by
  go_enter Tryz.func112, Tryz.ntmps112
  go_wp2
  go_returns
  exact ⟨rfl, rfl⟩
theorem rsigned (w : World) : Calls Tryz.prog 113 #[] w fun e w' => e = .returned (.agg #[.int .i64 (-2147483648), .int .i64 2147483647]) ∧ w' = w.alloc (.cells #[.int .i64 (-2147483648), .int .i64 2147483647] 28) := by
  go_enter Tryz.func113, Tryz.ntmps113
  go_wp2
  go_returns
  exact ⟨rfl, rfl⟩
theorem rany (w : World) : Calls Tryz.prog 52 #[] w fun e w' => e = .returned (.agg #[.int .u64 0, .int .u64 18446744073709551615, .int .u64 0, .int .u64 18446744073709551615, .int .i64 (-9223372036854775808), .int .i64 9223372036854775807, .int .u64 0, .int .u64 4294967295, .int .i64 (-2147483648), .int .i64 2147483647]) ∧ Gr w w' := by
  go_enter Tryz.func52, Tryz.ntmps52
  go_wp2_with (first
    | (go_at_call 110; refine (rfull _).mono ?_; rintro e w' ⟨rfl, hw⟩; rw [hw]; clear hw)
    | (go_at_call 111; refine (rall _).mono ?_; rintro e w' ⟨rfl, hw⟩; rw [hw]; clear hw)
    | (go_at_call 112; refine (rhalf _).mono ?_; rintro e w' ⟨rfl, hw⟩; rw [hw]; clear hw)
    | (go_at_call 113; refine (rsigned _).mono ?_; rintro e w' ⟨rfl, hw⟩; rw [hw]; clear hw))
  go_returns
  exact ⟨rfl, by go_grown, by go_grown⟩
theorem rnothing (w : World) : Calls Tryz.prog 30 #[] w fun e w' => e = .returned (.agg #[.int .u64 0, .int .u64 0, .int .u64 1, .int .u64 0, .int .i64 1, .int .i64 0, .int .u64 1, .int .u64 0, .int .i64 1, .int .i64 0]) ∧ Gr w w' := by
  go_enter Tryz.func30, Tryz.ntmps30
  go_wp2_with (first
    | (go_at_call 76; refine (rnothing_u _).mono ?_; rintro e w' ⟨rfl, hw⟩; rw [hw]; clear hw)
    | (go_at_call 77; refine (rnothing_s _).mono ?_; rintro e w' ⟨rfl, hw⟩; rw [hw]; clear hw))
  go_returns
  exact ⟨rfl, by go_grown, by go_grown⟩
theorem works_r : syncM ⟨0#64 &&& 7#64, Tn.andM 0#64 18446744073709551615#64 7#64 0#64, 0, min 18446744073709551615 7, -9223372036854775808, 9223372036854775807, 0, min 4294967295 7, -2147483648, 2147483647⟩ = ⟨0#64, 7#64, 0, 7, 0, 7, 0, 7, 0, 7⟩ := by
  kernel_rfl
theorem w_const5 (w : World) : Calls Tryz.prog 13 #[.int .u64 5] w fun e w' => e = .returned (.agg #[.int .u64 5, .int .u64 0, .int .u64 5, .int .u64 5, .int .i64 5, .int .i64 5, .int .u64 5, .int .u64 5, .int .i64 5, .int .i64 5]) ∧ Gr w w' := by
  have k := const_any 5#64 w
  rw [show wrap64 (iv 5#64) = 5 by kernel_rfl, show iv 5#64 % 4294967296 = 5 by kernel_rfl, show sg (iv 5#64) = 5 by kernel_rfl] at k
  exact k
theorem w_const7 (w : World) : Calls Tryz.prog 13 #[.int .u64 7] w fun e w' => e = .returned (.agg #[.int .u64 7, .int .u64 0, .int .u64 7, .int .u64 7, .int .i64 7, .int .i64 7, .int .u64 7, .int .u64 7, .int .i64 7, .int .i64 7]) ∧ Gr w w' := by
  have k := const_any 7#64 w
  rw [show wrap64 (iv 7#64) = 7 by kernel_rfl, show iv 7#64 % 4294967296 = 7 by kernel_rfl, show sg (iv 7#64) = 7 by kernel_rfl] at k
  exact k
theorem w_any (w : World) : Calls Tryz.prog 51 #[] w fun e w' => e = .returned (.agg #[.int .u64 0, .int .u64 18446744073709551615, .int .u64 0, .int .u64 18446744073709551615, .int .i64 (-9223372036854775808), .int .i64 9223372036854775807, .int .u64 0, .int .u64 4294967295, .int .i64 (-2147483648), .int .i64 2147483647]) ∧ Gr w w' := any_any w
theorem w_and (w : World) : Calls Tryz.prog 24 #[.int .u8 5, .bool true, .agg #[.int .u64 0, .int .u64 18446744073709551615, .int .u64 0, .int .u64 18446744073709551615, .int .i64 (-9223372036854775808), .int .i64 9223372036854775807, .int .u64 0, .int .u64 4294967295, .int .i64 (-2147483648), .int .i64 2147483647], .agg #[.int .u64 7, .int .u64 0, .int .u64 7, .int .u64 7, .int .i64 7, .int .i64 7, .int .u64 7, .int .u64 7, .int .i64 7, .int .i64 7]] w fun e w' => e = .returned (.tuple #[.agg #[.int .u64 0, .int .u64 7, .int .u64 0, .int .u64 7, .int .i64 0, .int .i64 7, .int .u64 0, .int .u64 7, .int .i64 0, .int .i64 7], .int .i64 0]) ∧ Gr w w' :=
  does_wide5 0#64 18446744073709551615#64 0 18446744073709551615 (-9223372036854775808) 9223372036854775807 0 4294967295 (-2147483648) 2147483647 7#64 0#64 7 7 7 7 7 7 7 7 _ works_r inU_f (by unfold InU; omega) (by decide) (by decide) w
theorem w_none (w : World) : Calls Tryz.prog 24 #[.int .u8 15, .bool true, .agg #[.int .u64 5, .int .u64 0, .int .u64 5, .int .u64 5, .int .i64 5, .int .i64 5, .int .u64 5, .int .u64 5, .int .i64 5, .int .i64 5], .agg #[.int .u64 5, .int .u64 0, .int .u64 5, .int .u64 5, .int .i64 5, .int .i64 5, .int .u64 5, .int .u64 5, .int .i64 5, .int .i64 5]] w fun e w' => e = .returned (.tuple #[.agg #[.int .u64 0, .int .u64 0, .int .u64 0, .int .u64 0, .int .i64 0, .int .i64 0, .int .u64 0, .int .u64 0, .int .i64 0, .int .i64 0], .int .i64 20]) ∧ Gr w w' :=
  does_no 5#64 0#64 5 5 5 5 5 5 5 5 5#64 0#64 5 5 5 5 5 5 5 5 15 true (by decide) w
theorem one_q (tv tm : BitVec 64) (ul uh sl sh wl wh vl vh : Int) (q : Bool) (h : ((tm == 0#64) && (tv &&& ~~~tm == tv && (decide (ul ≤ iv tv) && decide (iv tv ≤ uh)) && (decide (sl ≤ wrap64 (iv tv)) && decide (wrap64 (iv tv) ≤ sh)) && (decide (wl ≤ iv tv % 4294967296) && decide (iv tv % 4294967296 ≤ wh)) && (decide (vl ≤ sg (iv tv)) && decide (sg (iv tv) ≤ vh)))) = q) (w : World) : Calls Tryz.prog 9 #[.agg #[.int .u64 (iv tv), .int .u64 (iv tm), .int .u64 ul, .int .u64 uh, .int .i64 sl, .int .i64 sh, .int .u64 wl, .int .u64 wh, .int .i64 vl, .int .i64 vh]] w fun e w' => e = .returned (.tuple #[.int .u64 (eN q (iv tv) 0), .bool q]) ∧ Gr w w' := h ▸ one_any tv tm ul uh sl sh wl wh vl vh w
theorem w_one (w : World) : Calls Tryz.prog 9 #[.agg #[.int .u64 5, .int .u64 0, .int .u64 5, .int .u64 5, .int .i64 5, .int .i64 5, .int .u64 5, .int .u64 5, .int .i64 5, .int .i64 5]] w fun e w' => e = .returned (.tuple #[.int .u64 5, .bool true]) ∧ Gr w w' :=
  one_q 5#64 0#64 5 5 5 5 5 5 5 5 true (by kernel_rfl) w
theorem w_has5 (w : World) : Calls Tryz.prog 18 #[.agg #[.int .u64 5, .int .u64 0, .int .u64 5, .int .u64 5, .int .i64 5, .int .i64 5, .int .u64 5, .int .u64 5, .int .i64 5, .int .i64 5], .int .u64 5] w fun e w' => e = .returned (.bool true) ∧ Gr w w' :=
  has_q 5#64 0#64 5 5 5 5 5 5 5 5 5#64 true (by kernel_rfl) w
theorem w_has6 (w : World) : Calls Tryz.prog 18 #[.agg #[.int .u64 5, .int .u64 0, .int .u64 5, .int .u64 5, .int .i64 5, .int .i64 5, .int .u64 5, .int .u64 5, .int .i64 5, .int .i64 5], .int .u64 6] w fun e w' => e = .returned (.bool false) ∧ Gr w w' :=
  has_q 5#64 0#64 5 5 5 5 5 5 5 5 6#64 false (by kernel_rfl) w
theorem w_some (w : World) : Calls Tryz.prog 15 #[.agg #[.int .u64 0, .int .u64 7, .int .u64 0, .int .u64 7, .int .i64 0, .int .i64 7, .int .u64 0, .int .u64 7, .int .i64 0, .int .i64 7]] w fun e w' => e = .returned (.bool false) ∧ Gr w w' :=
  None_q 0#64 7#64 0 7 0 7 0 7 0 7 false (by decide) w
end Go.Proofs.YtekenpgagfmgkaaGreat
end
section
namespace Go.Proofs.YtekenpgagfmgkaaGreat
open Go.ChangeShapes Go.WideShapes Go.ChangeAt Go.RowKit
open Tn (iv)
set_option linter.unusedVariables false
set_option maxRecDepth 20000

set_option maxHeartbeats 4000000 in
theorem works_any (w : World) : Calls Tryz.prog 17 #[] w fun e w' => e = .returned (.bool true) ∧ Gr w w' := by
  go_enter Tryz.func17, Tryz.ntmps17
  go_upto_region 2 with (first | (go_at_call 13; refine (w_const5 _).mono ?_; rintro e w1 ⟨rfl, hg1⟩))
  have H5 : Hid (AtA (w1.alloc (.cells #[.int .u64 5, .int .u64 0, .int .u64 5, .int .u64 5, .int .i64 5, .int .i64 5, .int .u64 5, .int .u64 5, .int .i64 5, .int .i64 5] 30)) w1.heap.size #[.int .u64 5, .int .u64 0, .int .u64 5, .int .u64 5, .int .i64 5, .int .i64 5, .int .u64 5, .int .u64 5, .int .i64 5, .int .i64 5] 30) := AtA.newb _ rfl _ _
  have HG : Hid (Gr w (w1.alloc (.cells #[.int .u64 5, .int .u64 0, .int .u64 5, .int .u64 5, .int .i64 5, .int .i64 5, .int .u64 5, .int .u64 5, .int .i64 5, .int .i64 5] 30))) := hg1.alloc _ _
  revert H5 HG
  generalize (w1.alloc (.cells #[.int .u64 5, .int .u64 0, .int .u64 5, .int .u64 5, .int .i64 5, .int .i64 5, .int .u64 5, .int .u64 5, .int .i64 5, .int .i64 5] 30)) = W1
  generalize w1.heap.size = X5
  intro H5 HG
  clear hg1
  go_upto_region 3 with (first
    | (go_at_call 51; refine (w_any _).mono ?_; rintro e w2 ⟨rfl, hg2⟩)
    | (go_at_call 13; refine (w_const7 _).mono ?_; rintro e w3 ⟨rfl, hg3⟩)
    | (go_at_call 24; refine (w_and _).mono ?_; rintro e w4 ⟨rfl, hg4⟩))
  have H5b : Hid (AtA (w4.alloc (.cells #[.int .u64 0, .int .u64 7, .int .u64 0, .int .u64 7, .int .i64 0, .int .i64 7, .int .u64 0, .int .u64 7, .int .i64 0, .int .i64 7] 30)) X5 #[.int .u64 5, .int .u64 0, .int .u64 5, .int .u64 5, .int .i64 5, .int .i64 5, .int .u64 5, .int .u64 5, .int .i64 5, .int .i64 5] 30) := (((H5.out.gr hg2).gr hg3).gr hg4).alloc _
  have HXb : Hid (AtA (w4.alloc (.cells #[.int .u64 0, .int .u64 7, .int .u64 0, .int .u64 7, .int .i64 0, .int .i64 7, .int .u64 0, .int .u64 7, .int .i64 0, .int .i64 7] 30)) w4.heap.size #[.int .u64 0, .int .u64 7, .int .u64 0, .int .u64 7, .int .i64 0, .int .i64 7, .int .u64 0, .int .u64 7, .int .i64 0, .int .i64 7] 30) := AtA.newb _ rfl _ _
  have HGb : Hid (Gr w (w4.alloc (.cells #[.int .u64 0, .int .u64 7, .int .u64 0, .int .u64 7, .int .i64 0, .int .i64 7, .int .u64 0, .int .u64 7, .int .i64 0, .int .i64 7] 30))) := (((HG.out.trans hg2).trans hg3).trans hg4).alloc _ _
  clear H5 HG hg2 hg3 hg4
  revert H5b HXb HGb
  generalize (w4.alloc (.cells #[.int .u64 0, .int .u64 7, .int .u64 0, .int .u64 7, .int .i64 0, .int .i64 7, .int .u64 0, .int .u64 7, .int .i64 0, .int .i64 7] 30)) = W4
  generalize w4.heap.size = XX
  intro H5 HX HG
  have c0 := (H5.out).cell 0
  have c1 := (H5.out).cell 1
  have c2 := (H5.out).cell 2
  have c3 := (H5.out).cell 3
  have c4 := (H5.out).cell 4
  have c5 := (H5.out).cell 5
  have c6 := (H5.out).cell 6
  have c7 := (H5.out).cell 7
  have c8 := (H5.out).cell 8
  have c9 := (H5.out).cell 9
  simp only [List.getElem?_toArray, List.getElem?_cons_zero, List.getElem?_cons_succ] at c0 c1 c2 c3 c4 c5 c6 c7 c8 c9
  go_upto_region 4 with (first
    | (go_at_call 9; refine (w_one _).mono ?_; rintro e w5 ⟨rfl, hg⟩; have H5c : Hid (AtA w5 X5 _ 30) := H5.out.gr hg; have HXc : Hid (AtA w5 XX _ 30) := HX.out.gr hg; have HGc : Hid (Gr w w5) := HG.out.trans hg; clear hg H5 HX HG))
  clear c0 c1 c2 c3 c4 c5 c6 c7 c8 c9
  have c0 := (H5c.out).cell 0
  have c1 := (H5c.out).cell 1
  have c2 := (H5c.out).cell 2
  have c3 := (H5c.out).cell 3
  have c4 := (H5c.out).cell 4
  have c5 := (H5c.out).cell 5
  have c6 := (H5c.out).cell 6
  have c7 := (H5c.out).cell 7
  have c8 := (H5c.out).cell 8
  have c9 := (H5c.out).cell 9
  simp only [List.getElem?_toArray, List.getElem?_cons_zero, List.getElem?_cons_succ] at c0 c1 c2 c3 c4 c5 c6 c7 c8 c9
  go_upto_region 5 with (first
    | (go_at_call 24; refine (w_none _).mono ?_; rintro e w6 ⟨rfl, hg⟩; have H5d : Hid (AtA (w6.alloc (.cells #[.int .u64 0, .int .u64 0, .int .u64 0, .int .u64 0, .int .i64 0, .int .i64 0, .int .u64 0, .int .u64 0, .int .i64 0, .int .i64 0] 30)) X5 _ 30) := (H5c.out.gr hg).alloc _; have HXd : Hid (AtA (w6.alloc (.cells #[.int .u64 0, .int .u64 0, .int .u64 0, .int .u64 0, .int .i64 0, .int .i64 0, .int .u64 0, .int .u64 0, .int .i64 0, .int .i64 0] 30)) XX _ 30) := (HXc.out.gr hg).alloc _; have HGd : Hid (Gr w (w6.alloc (.cells #[.int .u64 0, .int .u64 0, .int .u64 0, .int .u64 0, .int .i64 0, .int .i64 0, .int .u64 0, .int .u64 0, .int .i64 0, .int .i64 0] 30))) := (HGc.out.trans hg).alloc _ _; clear hg H5c HXc HGc))
  clear c0 c1 c2 c3 c4 c5 c6 c7 c8 c9
  revert H5d HXd HGd
  generalize (w6.alloc (.cells #[.int .u64 0, .int .u64 0, .int .u64 0, .int .u64 0, .int .i64 0, .int .i64 0, .int .u64 0, .int .u64 0, .int .i64 0, .int .i64 0] 30)) = W6
  intro H5 HX HG
  have hc : ∀ p : GrBy W6, AtA p.to X5 _ 30 := fun p => H5.out.gr p.gr
  have hx : ∀ p : GrBy W6, AtA p.to XX _ 30 := fun p => HX.out.gr p.gr
  obtain ⟨q0, hq0⟩ : ∃ q : GrBy W6, W6 = q.to := ⟨⟨W6, Gr.refl _⟩, rfl⟩
  have c0 : ∀ p : GrBy W6, p.to.cell? ⟨X5, 0, none⟩ = some (.int .u64 5) := fun p => by have h := (hc p).cell 0; simpa only [List.getElem?_toArray, List.getElem?_cons_zero, List.getElem?_cons_succ] using h
  have x0 : ∀ p : GrBy W6, p.to.cell? ⟨XX, 0, none⟩ = some (.int .u64 0) := fun p => by have h := (hx p).cell 0; simpa only [List.getElem?_toArray, List.getElem?_cons_zero, List.getElem?_cons_succ] using h
  have c1 : ∀ p : GrBy W6, p.to.cell? ⟨X5, 1, none⟩ = some (.int .u64 0) := fun p => by have h := (hc p).cell 1; simpa only [List.getElem?_toArray, List.getElem?_cons_zero, List.getElem?_cons_succ] using h
  have x1 : ∀ p : GrBy W6, p.to.cell? ⟨XX, 1, none⟩ = some (.int .u64 7) := fun p => by have h := (hx p).cell 1; simpa only [List.getElem?_toArray, List.getElem?_cons_zero, List.getElem?_cons_succ] using h
  have c2 : ∀ p : GrBy W6, p.to.cell? ⟨X5, 2, none⟩ = some (.int .u64 5) := fun p => by have h := (hc p).cell 2; simpa only [List.getElem?_toArray, List.getElem?_cons_zero, List.getElem?_cons_succ] using h
  have x2 : ∀ p : GrBy W6, p.to.cell? ⟨XX, 2, none⟩ = some (.int .u64 0) := fun p => by have h := (hx p).cell 2; simpa only [List.getElem?_toArray, List.getElem?_cons_zero, List.getElem?_cons_succ] using h
  have c3 : ∀ p : GrBy W6, p.to.cell? ⟨X5, 3, none⟩ = some (.int .u64 5) := fun p => by have h := (hc p).cell 3; simpa only [List.getElem?_toArray, List.getElem?_cons_zero, List.getElem?_cons_succ] using h
  have x3 : ∀ p : GrBy W6, p.to.cell? ⟨XX, 3, none⟩ = some (.int .u64 7) := fun p => by have h := (hx p).cell 3; simpa only [List.getElem?_toArray, List.getElem?_cons_zero, List.getElem?_cons_succ] using h
  have c4 : ∀ p : GrBy W6, p.to.cell? ⟨X5, 4, none⟩ = some (.int .i64 5) := fun p => by have h := (hc p).cell 4; simpa only [List.getElem?_toArray, List.getElem?_cons_zero, List.getElem?_cons_succ] using h
  have x4 : ∀ p : GrBy W6, p.to.cell? ⟨XX, 4, none⟩ = some (.int .i64 0) := fun p => by have h := (hx p).cell 4; simpa only [List.getElem?_toArray, List.getElem?_cons_zero, List.getElem?_cons_succ] using h
  have c5 : ∀ p : GrBy W6, p.to.cell? ⟨X5, 5, none⟩ = some (.int .i64 5) := fun p => by have h := (hc p).cell 5; simpa only [List.getElem?_toArray, List.getElem?_cons_zero, List.getElem?_cons_succ] using h
  have x5 : ∀ p : GrBy W6, p.to.cell? ⟨XX, 5, none⟩ = some (.int .i64 7) := fun p => by have h := (hx p).cell 5; simpa only [List.getElem?_toArray, List.getElem?_cons_zero, List.getElem?_cons_succ] using h
  have c6 : ∀ p : GrBy W6, p.to.cell? ⟨X5, 6, none⟩ = some (.int .u64 5) := fun p => by have h := (hc p).cell 6; simpa only [List.getElem?_toArray, List.getElem?_cons_zero, List.getElem?_cons_succ] using h
  have x6 : ∀ p : GrBy W6, p.to.cell? ⟨XX, 6, none⟩ = some (.int .u64 0) := fun p => by have h := (hx p).cell 6; simpa only [List.getElem?_toArray, List.getElem?_cons_zero, List.getElem?_cons_succ] using h
  have c7 : ∀ p : GrBy W6, p.to.cell? ⟨X5, 7, none⟩ = some (.int .u64 5) := fun p => by have h := (hc p).cell 7; simpa only [List.getElem?_toArray, List.getElem?_cons_zero, List.getElem?_cons_succ] using h
  have x7 : ∀ p : GrBy W6, p.to.cell? ⟨XX, 7, none⟩ = some (.int .u64 7) := fun p => by have h := (hx p).cell 7; simpa only [List.getElem?_toArray, List.getElem?_cons_zero, List.getElem?_cons_succ] using h
  have c8 : ∀ p : GrBy W6, p.to.cell? ⟨X5, 8, none⟩ = some (.int .i64 5) := fun p => by have h := (hc p).cell 8; simpa only [List.getElem?_toArray, List.getElem?_cons_zero, List.getElem?_cons_succ] using h
  have x8 : ∀ p : GrBy W6, p.to.cell? ⟨XX, 8, none⟩ = some (.int .i64 0) := fun p => by have h := (hx p).cell 8; simpa only [List.getElem?_toArray, List.getElem?_cons_zero, List.getElem?_cons_succ] using h
  have c9 : ∀ p : GrBy W6, p.to.cell? ⟨X5, 9, none⟩ = some (.int .i64 5) := fun p => by have h := (hc p).cell 9; simpa only [List.getElem?_toArray, List.getElem?_cons_zero, List.getElem?_cons_succ] using h
  have x9 : ∀ p : GrBy W6, p.to.cell? ⟨XX, 9, none⟩ = some (.int .i64 7) := fun p => by have h := (hx p).cell 9; simpa only [List.getElem?_toArray, List.getElem?_cons_zero, List.getElem?_cons_succ] using h
  rw [show W6 = q0.to from hq0]
  clear hc hx
  go_wp2_with (first
    | (go_at_call_of 18 (Value.int IntKind.u64 6); refine (w_has6 _).mono ?_; rintro e w' ⟨rfl, hg⟩; obtain ⟨q', rfl⟩ := by_of hg; clear hg)
    | (go_at_call 18; refine (w_has5 _).mono ?_; rintro e w' ⟨rfl, hg⟩; obtain ⟨q', rfl⟩ := by_of hg; clear hg)
    | (go_at_call 51; refine (w_any _).mono ?_; rintro e w' ⟨rfl, hg⟩; obtain ⟨q', rfl⟩ := by_of hg; clear hg)
    | (go_at_call 52; refine (rany _).mono ?_; rintro e w' ⟨rfl, hg⟩; obtain ⟨q', rfl⟩ := by_of hg; clear hg)
    | (go_at_call 15; refine (w_some _).mono ?_; rintro e w' ⟨rfl, hg⟩; obtain ⟨q', rfl⟩ := by_of hg; clear hg))
  go_ret
  exact ⟨by simp, HG.out.trans (GrBy.gr _)⟩
end Go.Proofs.YtekenpgagfmgkaaGreat
end
section
namespace Go.Proofs.YtekenpgagfmgkaaGreat
open Go.ChangeShapes Go.WideShapes Go.ChangeAt Go.RowKit
open Tn (iv)
set_option linter.unusedVariables false
set_option maxRecDepth 20000

set_option maxHeartbeats 2000000 in
theorem meet_none (atv atm : BitVec 64) (aul auh asl ash awl awh avl avh : Int) (btv btm : BitVec 64) (bul buh bsl bsh bwl bwh bvl bvh : Int) (h : (nn aul auh asl ash awl awh avl avh || nn bul buh bsl bsh bwl bwh bvl bvh) = true) (w : World) : Calls Tryz.prog 21 #[.agg #[.int .u64 (iv atv), .int .u64 (iv atm), .int .u64 aul, .int .u64 auh, .int .i64 asl, .int .i64 ash, .int .u64 awl, .int .u64 awh, .int .i64 avl, .int .i64 avh], .agg #[.int .u64 (iv btv), .int .u64 (iv btm), .int .u64 bul, .int .u64 buh, .int .i64 bsl, .int .i64 bsh, .int .u64 bwl, .int .u64 bwh, .int .i64 bvl, .int .i64 bvh]] w fun e w' => e = .returned (.agg #[.int .u64 0, .int .u64 0, .int .u64 1, .int .u64 0, .int .i64 1, .int .i64 0, .int .u64 1, .int .u64 0, .int .i64 1, .int .i64 0]) ∧ Gr w w' := by
  have HA : Hid (AtA (((w.alloc (.cells #[.int .u64 (iv atv), .int .u64 (iv atm), .int .u64 aul, .int .u64 auh, .int .i64 asl, .int .i64 ash, .int .u64 awl, .int .u64 awh, .int .i64 avl, .int .i64 avh] 30)).alloc (.cells #[.int .u64 (iv btv), .int .u64 (iv btm), .int .u64 bul, .int .u64 buh, .int .i64 bsl, .int .i64 bsh, .int .u64 bwl, .int .u64 bwh, .int .i64 bvl, .int .i64 bvh] 30)).alloc (.cells #[.int .u64 0, .int .u64 0, .int .u64 0, .int .u64 0, .int .i64 0, .int .i64 0, .int .u64 0, .int .u64 0, .int .i64 0, .int .i64 0] 30)) w.heap.size #[.int .u64 (iv atv), .int .u64 (iv atm), .int .u64 aul, .int .u64 auh, .int .i64 asl, .int .i64 ash, .int .u64 awl, .int .u64 awh, .int .i64 avl, .int .i64 avh] 30) := ((AtA.newb _ (by simp) _ _).alloc _).alloc _
  have HB : Hid (AtA (((w.alloc (.cells #[.int .u64 (iv atv), .int .u64 (iv atm), .int .u64 aul, .int .u64 auh, .int .i64 asl, .int .i64 ash, .int .u64 awl, .int .u64 awh, .int .i64 avl, .int .i64 avh] 30)).alloc (.cells #[.int .u64 (iv btv), .int .u64 (iv btm), .int .u64 bul, .int .u64 buh, .int .i64 bsl, .int .i64 bsh, .int .u64 bwl, .int .u64 bwh, .int .i64 bvl, .int .i64 bvh] 30)).alloc (.cells #[.int .u64 0, .int .u64 0, .int .u64 0, .int .u64 0, .int .i64 0, .int .i64 0, .int .u64 0, .int .u64 0, .int .i64 0, .int .i64 0] 30)) (w.heap.size + 1) #[.int .u64 (iv btv), .int .u64 (iv btm), .int .u64 bul, .int .u64 buh, .int .i64 bsl, .int .i64 bsh, .int .u64 bwl, .int .u64 bwh, .int .i64 bvl, .int .i64 bvh] 30) := (AtA.newb _ (by simp) _ _).alloc _
  have HR : Hid (AtA (((w.alloc (.cells #[.int .u64 (iv atv), .int .u64 (iv atm), .int .u64 aul, .int .u64 auh, .int .i64 asl, .int .i64 ash, .int .u64 awl, .int .u64 awh, .int .i64 avl, .int .i64 avh] 30)).alloc (.cells #[.int .u64 (iv btv), .int .u64 (iv btm), .int .u64 bul, .int .u64 buh, .int .i64 bsl, .int .i64 bsh, .int .u64 bwl, .int .u64 bwh, .int .i64 bvl, .int .i64 bvh] 30)).alloc (.cells #[.int .u64 0, .int .u64 0, .int .u64 0, .int .u64 0, .int .i64 0, .int .i64 0, .int .u64 0, .int .u64 0, .int .i64 0, .int .i64 0] 30)) (w.heap.size + 1 + 1) #[.int .u64 0, .int .u64 0, .int .u64 0, .int .u64 0, .int .i64 0, .int .i64 0, .int .u64 0, .int .u64 0, .int .i64 0, .int .i64 0] 30) := AtA.newb _ (by simp) _ _
  have HF : Hid (Gr w (((w.alloc (.cells #[.int .u64 (iv atv), .int .u64 (iv atm), .int .u64 aul, .int .u64 auh, .int .i64 asl, .int .i64 ash, .int .u64 awl, .int .u64 awh, .int .i64 avl, .int .i64 avh] 30)).alloc (.cells #[.int .u64 (iv btv), .int .u64 (iv btm), .int .u64 bul, .int .u64 buh, .int .i64 bsl, .int .i64 bsh, .int .u64 bwl, .int .u64 bwh, .int .i64 bvl, .int .i64 bvh] 30)).alloc (.cells #[.int .u64 0, .int .u64 0, .int .u64 0, .int .u64 0, .int .i64 0, .int .i64 0, .int .u64 0, .int .u64 0, .int .i64 0, .int .i64 0] 30))) := (⟨by go_grown, by go_grown⟩ : Gr w _)
  have i0 := (HA.out.cell 0)
  have i1 := (HA.out.cell 1)
  have i2 := (HB.out.cell 0)
  have i3 := (HB.out.cell 1)
  simp only [List.getElem?_toArray, List.getElem?_cons_zero, List.getElem?_cons_succ] at i0 i1 i2 i3
  cases n1 : nn aul auh asl ash awl awh avl avh
  · have n2 : nn bul buh bsl bsh bwl bwh bvl bvh = true := by rw [n1] at h; exact h
    go_enter Tryz.func21, Tryz.ntmps21
    go_upto_region 3 with (first
      | (go_at_call 58; refine (cv (Tn.meet_any _ _ _ _ _)).mono ?_; rintro e w1 ⟨rfl, hg⟩; have ha1 : Hid (AtA (w1.alloc (.cells #[.int .u64 (iv (Tn.mtV atv atm btv btm)), .int .u64 (iv (Tn.mtM atv atm btv btm))] 24)) w.heap.size _ 30) := (HA.out.gr hg).alloc _; have hb1 : Hid (AtA (w1.alloc (.cells #[.int .u64 (iv (Tn.mtV atv atm btv btm)), .int .u64 (iv (Tn.mtM atv atm btv btm))] 24)) (w.heap.size + 1) _ 30) := (HB.out.gr hg).alloc _; have hr1 : Hid (AtA (w1.alloc (.cells #[.int .u64 (iv (Tn.mtV atv atm btv btm)), .int .u64 (iv (Tn.mtM atv atm btv btm))] 24)) (w.heap.size + 1 + 1) _ 30) := (HR.out.gr hg).alloc _; have hg1 : Hid (Gr w (w1.alloc (.cells #[.int .u64 (iv (Tn.mtV atv atm btv btm)), .int .u64 (iv (Tn.mtM atv atm btv btm))] 24))) := (HF.out.trans hg).alloc _ _; clear hg; have a0 := (ha1.out).cell 0; have a1 := (ha1.out).cell 1; have a2 := (ha1.out).cell 2; have a3 := (ha1.out).cell 3; have a4 := (ha1.out).cell 4; have a5 := (ha1.out).cell 5; have a6 := (ha1.out).cell 6; have a7 := (ha1.out).cell 7; have a8 := (ha1.out).cell 8; have a9 := (ha1.out).cell 9; have b0 := (hb1.out).cell 0; have b1 := (hb1.out).cell 1; have b2 := (hb1.out).cell 2; have b3 := (hb1.out).cell 3; have b4 := (hb1.out).cell 4; have b5 := (hb1.out).cell 5; have b6 := (hb1.out).cell 6; have b7 := (hb1.out).cell 7; have b8 := (hb1.out).cell 8; have b9 := (hb1.out).cell 9; simp only [List.getElem?_toArray, List.getElem?_cons_zero, List.getElem?_cons_succ] at a0 a1 a2 a3 a4 a5 a6 a7 a8 a9 b0 b1 b2 b3 b4 b5 b6 b7 b8 b9)
      | (go_at_call 15; refine (None_q _ _ _ _ _ _ _ _ _ _ _ (by with_reducible assumption) _).mono ?_; rintro e w2 ⟨rfl, hg⟩; have hb2 := hb1.out.gr hg; replace hb1 : Hid (AtA w2 (w.heap.size + 1) _ 30) := hb2; replace hr1 : Hid (AtA w2 (w.heap.size + 1 + 1) _ 30) := hr1.out.gr hg; replace hg1 : Hid (Gr w w2) := hg1.out.trans hg; clear hg hb2; have b0 := (hb1.out).cell 0; have b1 := (hb1.out).cell 1; have b2 := (hb1.out).cell 2; have b3 := (hb1.out).cell 3; have b4 := (hb1.out).cell 4; have b5 := (hb1.out).cell 5; have b6 := (hb1.out).cell 6; have b7 := (hb1.out).cell 7; have b8 := (hb1.out).cell 8; have b9 := (hb1.out).cell 9; simp only [List.getElem?_toArray, List.getElem?_cons_zero, List.getElem?_cons_succ] at b0 b1 b2 b3 b4 b5 b6 b7 b8 b9))
    go_wp2_with (first
      | (go_at_call 40; refine (nothing_gr _).mono ?_; rintro e w3 ⟨rfl, hg⟩; have hr : Hid (AtA w3 (w.heap.size + 1 + 1) _ 30) := hr1.out.gr hg; have hG : Hid (Gr w w3) := hg1.out.trans hg; clear hg
         have f0 := (hr.out).f 0
         have f1 := (hr.out).f 1
         have f2 := (hr.out).f 2
         have f3 := (hr.out).f 3
         have f4 := (hr.out).f 4
         have f5 := (hr.out).f 5
         have f6 := (hr.out).f 6
         have f7 := (hr.out).f 7
         have f8 := (hr.out).f 8
         have f9 := (hr.out).f 9
         have d0 := (hr.out).cell 0
         have d1 := (hr.out).cell 1
         have d2 := (hr.out).cell 2
         have d3 := (hr.out).cell 3
         have d4 := (hr.out).cell 4
         have d5 := (hr.out).cell 5
         have d6 := (hr.out).cell 6
         have d7 := (hr.out).cell 7
         have d8 := (hr.out).cell 8
         have d9 := (hr.out).cell 9
         simp only [List.getElem?_toArray, List.getElem?_cons_zero, List.getElem?_cons_succ] at d0 d1 d2 d3 d4 d5 d6 d7 d8 d9
         have hz := (((((((((((hr.out).st 0 (.int .u64 0)).st 1 (.int .u64 0)).st 2 (.int .u64 1)).st 3 (.int .u64 0)).st 4 (.int .i64 1)).st 5 (.int .i64 0)).st 6 (.int .u64 1)).st 7 (.int .u64 0)).st 8 (.int .i64 1)).st 9 (.int .i64 0))
         simp only [List.setIfInBounds_toArray, List.set_cons_zero, List.set_cons_succ] at hz
         have e0 := hz.cell 0
         have e1 := hz.cell 1
         have e2 := hz.cell 2
         have e3 := hz.cell 3
         have e4 := hz.cell 4
         have e5 := hz.cell 5
         have e6 := hz.cell 6
         have e7 := hz.cell 7
         have e8 := hz.cell 8
         have e9 := hz.cell 9
         simp only [List.getElem?_toArray, List.getElem?_cons_zero, List.getElem?_cons_succ] at e0 e1 e2 e3 e4 e5 e6 e7 e8 e9
         clear hz
))
    refine bodyPost_ret (by simp [results, Tryz.results21, go_sem, e0, e1, e2, e3, e4, e5, e6, e7, e8, e9]; try rfl) rfl ?_
    exact ⟨rfl, ((((((((((hG.out.set (by omega) _).set (by omega) _).set (by omega) _).set (by omega) _).set (by omega) _).set (by omega) _).set (by omega) _).set (by omega) _).set (by omega) _).set (by omega) _)⟩
  · go_enter Tryz.func21, Tryz.ntmps21
    go_upto_region 3 with (first
      | (go_at_call 58; refine (cv (Tn.meet_any _ _ _ _ _)).mono ?_; rintro e w1 ⟨rfl, hg⟩; have ha1 : Hid (AtA (w1.alloc (.cells #[.int .u64 (iv (Tn.mtV atv atm btv btm)), .int .u64 (iv (Tn.mtM atv atm btv btm))] 24)) w.heap.size _ 30) := (HA.out.gr hg).alloc _; have hb1 : Hid (AtA (w1.alloc (.cells #[.int .u64 (iv (Tn.mtV atv atm btv btm)), .int .u64 (iv (Tn.mtM atv atm btv btm))] 24)) (w.heap.size + 1) _ 30) := (HB.out.gr hg).alloc _; have hr1 : Hid (AtA (w1.alloc (.cells #[.int .u64 (iv (Tn.mtV atv atm btv btm)), .int .u64 (iv (Tn.mtM atv atm btv btm))] 24)) (w.heap.size + 1 + 1) _ 30) := (HR.out.gr hg).alloc _; have hg1 : Hid (Gr w (w1.alloc (.cells #[.int .u64 (iv (Tn.mtV atv atm btv btm)), .int .u64 (iv (Tn.mtM atv atm btv btm))] 24))) := (HF.out.trans hg).alloc _ _; clear hg; have a0 := (ha1.out).cell 0; have a1 := (ha1.out).cell 1; have a2 := (ha1.out).cell 2; have a3 := (ha1.out).cell 3; have a4 := (ha1.out).cell 4; have a5 := (ha1.out).cell 5; have a6 := (ha1.out).cell 6; have a7 := (ha1.out).cell 7; have a8 := (ha1.out).cell 8; have a9 := (ha1.out).cell 9; have b0 := (hb1.out).cell 0; have b1 := (hb1.out).cell 1; have b2 := (hb1.out).cell 2; have b3 := (hb1.out).cell 3; have b4 := (hb1.out).cell 4; have b5 := (hb1.out).cell 5; have b6 := (hb1.out).cell 6; have b7 := (hb1.out).cell 7; have b8 := (hb1.out).cell 8; have b9 := (hb1.out).cell 9; simp only [List.getElem?_toArray, List.getElem?_cons_zero, List.getElem?_cons_succ] at a0 a1 a2 a3 a4 a5 a6 a7 a8 a9 b0 b1 b2 b3 b4 b5 b6 b7 b8 b9)
      | (go_at_call 15; refine (None_q _ _ _ _ _ _ _ _ _ _ _ (by with_reducible assumption) _).mono ?_; rintro e w2 ⟨rfl, hg⟩; have hb2 := hb1.out.gr hg; replace hb1 : Hid (AtA w2 (w.heap.size + 1) _ 30) := hb2; replace hr1 : Hid (AtA w2 (w.heap.size + 1 + 1) _ 30) := hr1.out.gr hg; replace hg1 : Hid (Gr w w2) := hg1.out.trans hg; clear hg hb2; have b0 := (hb1.out).cell 0; have b1 := (hb1.out).cell 1; have b2 := (hb1.out).cell 2; have b3 := (hb1.out).cell 3; have b4 := (hb1.out).cell 4; have b5 := (hb1.out).cell 5; have b6 := (hb1.out).cell 6; have b7 := (hb1.out).cell 7; have b8 := (hb1.out).cell 8; have b9 := (hb1.out).cell 9; simp only [List.getElem?_toArray, List.getElem?_cons_zero, List.getElem?_cons_succ] at b0 b1 b2 b3 b4 b5 b6 b7 b8 b9))
    go_wp2_with (first
      | (go_at_call 40; refine (nothing_gr _).mono ?_; rintro e w3 ⟨rfl, hg⟩; have hr : Hid (AtA w3 (w.heap.size + 1 + 1) _ 30) := hr1.out.gr hg; have hG : Hid (Gr w w3) := hg1.out.trans hg; clear hg
         have f0 := (hr.out).f 0
         have f1 := (hr.out).f 1
         have f2 := (hr.out).f 2
         have f3 := (hr.out).f 3
         have f4 := (hr.out).f 4
         have f5 := (hr.out).f 5
         have f6 := (hr.out).f 6
         have f7 := (hr.out).f 7
         have f8 := (hr.out).f 8
         have f9 := (hr.out).f 9
         have d0 := (hr.out).cell 0
         have d1 := (hr.out).cell 1
         have d2 := (hr.out).cell 2
         have d3 := (hr.out).cell 3
         have d4 := (hr.out).cell 4
         have d5 := (hr.out).cell 5
         have d6 := (hr.out).cell 6
         have d7 := (hr.out).cell 7
         have d8 := (hr.out).cell 8
         have d9 := (hr.out).cell 9
         simp only [List.getElem?_toArray, List.getElem?_cons_zero, List.getElem?_cons_succ] at d0 d1 d2 d3 d4 d5 d6 d7 d8 d9
         have hz := (((((((((((hr.out).st 0 (.int .u64 0)).st 1 (.int .u64 0)).st 2 (.int .u64 1)).st 3 (.int .u64 0)).st 4 (.int .i64 1)).st 5 (.int .i64 0)).st 6 (.int .u64 1)).st 7 (.int .u64 0)).st 8 (.int .i64 1)).st 9 (.int .i64 0))
         simp only [List.setIfInBounds_toArray, List.set_cons_zero, List.set_cons_succ] at hz
         have e0 := hz.cell 0
         have e1 := hz.cell 1
         have e2 := hz.cell 2
         have e3 := hz.cell 3
         have e4 := hz.cell 4
         have e5 := hz.cell 5
         have e6 := hz.cell 6
         have e7 := hz.cell 7
         have e8 := hz.cell 8
         have e9 := hz.cell 9
         simp only [List.getElem?_toArray, List.getElem?_cons_zero, List.getElem?_cons_succ] at e0 e1 e2 e3 e4 e5 e6 e7 e8 e9
         clear hz
))
    refine bodyPost_ret (by simp [results, Tryz.results21, go_sem, e0, e1, e2, e3, e4, e5, e6, e7, e8, e9]; try rfl) rfl ?_
    exact ⟨rfl, ((((((((((hG.out.set (by omega) _).set (by omega) _).set (by omega) _).set (by omega) _).set (by omega) _).set (by omega) _).set (by omega) _).set (by omega) _).set (by omega) _).set (by omega) _)⟩
end Go.Proofs.YtekenpgagfmgkaaGreat
end
section
namespace Go.Proofs.YtekenpgagfmgkaaGreat
open Go.ChangeShapes Go.WideShapes Go.ChangeAt Go.RowKit
open Tn (iv)
set_option linter.unusedVariables false
set_option maxRecDepth 20000

theorem set2 {w : World} {b : Nat} {y0 y1 y2 y3 y4 y5 y6 y7 y8 y9 : Value} {t : TypeId} (h : AtA w b #[y0, y1, y2, y3, y4, y5, y6, y7, y8, y9] t) (u v : Value) : AtA ((w.setCell ⟨b, 2, none⟩ u).setCell ⟨b, 3, none⟩ v) b #[y0, y1, u, v, y4, y5, y6, y7, y8, y9] t := by
  have k := (h.st 2 u).st 3 v
  simp only [List.setIfInBounds_toArray, List.set_cons_zero, List.set_cons_succ] at k
  exact k
theorem set4 {w : World} {b : Nat} {y0 y1 y2 y3 y4 y5 y6 y7 y8 y9 : Value} {t : TypeId} (h : AtA w b #[y0, y1, y2, y3, y4, y5, y6, y7, y8, y9] t) (u v : Value) : AtA ((w.setCell ⟨b, 4, none⟩ u).setCell ⟨b, 5, none⟩ v) b #[y0, y1, y2, y3, u, v, y6, y7, y8, y9] t := by
  have k := (h.st 4 u).st 5 v
  simp only [List.setIfInBounds_toArray, List.set_cons_zero, List.set_cons_succ] at k
  exact k
theorem set6 {w : World} {b : Nat} {y0 y1 y2 y3 y4 y5 y6 y7 y8 y9 : Value} {t : TypeId} (h : AtA w b #[y0, y1, y2, y3, y4, y5, y6, y7, y8, y9] t) (u v : Value) : AtA ((w.setCell ⟨b, 6, none⟩ u).setCell ⟨b, 7, none⟩ v) b #[y0, y1, y2, y3, y4, y5, u, v, y8, y9] t := by
  have k := (h.st 6 u).st 7 v
  simp only [List.setIfInBounds_toArray, List.set_cons_zero, List.set_cons_succ] at k
  exact k
set_option maxHeartbeats 4000000 in
theorem of_any (mk x : BitVec 64) (dn up ls mo hf tp : Int) (h1 : InU dn) (h2 : InU up) (h3 : InU ls) (h4 : InU mo) (h5 : 0 ≤ hf ∧ hf ≤ 4294967295) (h6 : 0 ≤ tp ∧ tp ≤ 4294967295) (w : World) : Calls Tryz.prog 23 #[.agg #[.int .u64 (iv mk), .int .u64 dn, .int .u64 up, .int .u64 ls, .int .u64 mo, .int .u32 hf, .int .u32 tp], .int .u64 (iv x)] w fun e w' => ∃ b : Bd, Good b ∧ Has b x ∧ e = .returned (.agg #[.int .u64 (iv b.tv), .int .u64 (iv b.tm), .int .u64 b.ul, .int .u64 b.uh, .int .i64 b.sl, .int .i64 b.sh, .int .u64 b.wl, .int .u64 b.wh, .int .i64 b.vl, .int .i64 b.vh]) ∧ Gr w w' := by
  have q1 := Tn.iv_andNot x mk
  have hx := inU_iv x
  have HX : Hid (InU (iv x)) := hx
  have H1 : Hid (InU dn ∧ InU up ∧ InU ls ∧ InU mo ∧ (0 ≤ hf ∧ hf ≤ 4294967295) ∧ (0 ≤ tp ∧ tp ≤ 4294967295)) := ⟨h1, h2, h3, h4, h5, h6⟩
  clear hx h1 h2 h3 h4 h5 h6
  go_enter Tryz.func23, Tryz.ntmps23
  go_upto_region 2 with (first | (go_at_call 52; refine (rany _).mono ?_; rintro e w1 ⟨rfl, hg1⟩))
  have hsz : w.heap.size + 2 ≤ w1.heap.size := by
    have := hg1.below.size
    simp at this
    omega
  have HA : Hid (AtA (w1.alloc (.cells #[.int .u64 0, .int .u64 18446744073709551615, .int .u64 0, .int .u64 18446744073709551615, .int .i64 (-9223372036854775808), .int .i64 9223372036854775807, .int .u64 0, .int .u64 4294967295, .int .i64 (-2147483648), .int .i64 2147483647] 30)) w.heap.size #[.int .u64 (iv mk), .int .u64 dn, .int .u64 up, .int .u64 ls, .int .u64 mo, .int .u32 hf, .int .u32 tp] 43) := (((AtA.newb w rfl #[.int .u64 (iv mk), .int .u64 dn, .int .u64 up, .int .u64 ls, .int .u64 mo, .int .u32 hf, .int .u32 tp] 43).alloc _).gr hg1).alloc _
  have HR : Hid (AtA (w1.alloc (.cells #[.int .u64 0, .int .u64 18446744073709551615, .int .u64 0, .int .u64 18446744073709551615, .int .i64 (-9223372036854775808), .int .i64 9223372036854775807, .int .u64 0, .int .u64 4294967295, .int .i64 (-2147483648), .int .i64 2147483647] 30)) (w.heap.size + 1) #[.int .u64 0, .int .u64 0, .int .u64 0, .int .u64 0, .int .i64 0, .int .i64 0, .int .u64 0, .int .u64 0, .int .i64 0, .int .i64 0] 30) := ((AtA.newb _ (by simp) _ _).gr hg1).alloc _
  have HX1 : Hid (AtA (w1.alloc (.cells #[.int .u64 0, .int .u64 18446744073709551615, .int .u64 0, .int .u64 18446744073709551615, .int .i64 (-9223372036854775808), .int .i64 9223372036854775807, .int .u64 0, .int .u64 4294967295, .int .i64 (-2147483648), .int .i64 2147483647] 30)) w1.heap.size #[.int .u64 0, .int .u64 18446744073709551615, .int .u64 0, .int .u64 18446744073709551615, .int .i64 (-9223372036854775808), .int .i64 9223372036854775807, .int .u64 0, .int .u64 4294967295, .int .i64 (-2147483648), .int .i64 2147483647] 30) := AtA.newb _ rfl _ _
  have HG : Hid (Gr w (w1.alloc (.cells #[.int .u64 0, .int .u64 18446744073709551615, .int .u64 0, .int .u64 18446744073709551615, .int .i64 (-9223372036854775808), .int .i64 9223372036854775807, .int .u64 0, .int .u64 4294967295, .int .i64 (-2147483648), .int .i64 2147483647] 30))) := Gr.alloc (Gr.trans ⟨by go_grown, by go_grown⟩ hg1) _ _
  have hw0 : w.heap.size ≤ w.heap.size := Nat.le_refl _
  revert HA HR HX1 HG hsz hw0
  generalize (w1.alloc (.cells #[.int .u64 0, .int .u64 18446744073709551615, .int .u64 0, .int .u64 18446744073709551615, .int .i64 (-9223372036854775808), .int .i64 9223372036854775807, .int .u64 0, .int .u64 4294967295, .int .i64 (-2147483648), .int .i64 2147483647] 30)) = W1
  generalize w1.heap.size = PX
  generalize hPR : w.heap.size + 1 = PR
  generalize hPA : w.heap.size = PA
  intro hsz HA HR HX1 HG hw0
  have hPA2 : w.heap.size ≤ PA := by omega
  have hPX : PA + 2 ≤ PX := by omega
  have hPR2 : PA < PR := by omega
  have hPR3 : PR < PX := by omega
  clear hsz hw0 hg1 hPR hPA
  have a0 := HA.out.cell 0
  have f0 := HX1.out.f 0
  have f1 := HX1.out.f 1
  have d0 := HX1.out.cell 0
  have d1 := HX1.out.cell 1
  simp only [List.getElem?_toArray, List.getElem?_cons_zero, List.getElem?_cons_succ] at a0 d0 d1
  go_upto_region 3 with fail
  have HA2 : Hid (AtA ((W1.setCell ⟨PX, 0, none⟩ (.int .u64 (iv (x &&& ~~~mk)))).setCell ⟨PX, 1, none⟩ (.int .u64 (iv mk))) PA #[.int .u64 (iv mk), .int .u64 dn, .int .u64 up, .int .u64 ls, .int .u64 mo, .int .u32 hf, .int .u32 tp] 43) := (HA.out.other (by omega) _).other (by omega) _
  have HR2 : Hid (AtA ((W1.setCell ⟨PX, 0, none⟩ (.int .u64 (iv (x &&& ~~~mk)))).setCell ⟨PX, 1, none⟩ (.int .u64 (iv mk))) PR #[.int .u64 0, .int .u64 0, .int .u64 0, .int .u64 0, .int .i64 0, .int .i64 0, .int .u64 0, .int .u64 0, .int .i64 0, .int .i64 0] 30) := (HR.out.other (by omega) _).other (by omega) _
  have HX2 : Hid (AtA ((W1.setCell ⟨PX, 0, none⟩ (.int .u64 (iv (x &&& ~~~mk)))).setCell ⟨PX, 1, none⟩ (.int .u64 (iv mk))) PX #[.int .u64 (iv (x &&& ~~~mk)), .int .u64 (iv mk), .int .u64 0, .int .u64 18446744073709551615, .int .i64 (-9223372036854775808), .int .i64 9223372036854775807, .int .u64 0, .int .u64 4294967295, .int .i64 (-2147483648), .int .i64 2147483647] 30) := by have h := (HX1.out.st 0 (.int .u64 (iv (x &&& ~~~mk)))).st 1 (.int .u64 (iv mk)); simp only [List.setIfInBounds_toArray, List.set_cons_zero, List.set_cons_succ] at h; exact h
  have HG2 : Hid (Gr w ((W1.setCell ⟨PX, 0, none⟩ (.int .u64 (iv (x &&& ~~~mk)))).setCell ⟨PX, 1, none⟩ (.int .u64 (iv mk)))) := (HG.out.set (by omega) _).set (by omega) _
  clear HA HR HX1 HG a0 f0 f1 d0 d1
  revert HA2 HR2 HX2 HG2
  generalize ((W1.setCell ⟨PX, 0, none⟩ (.int .u64 (iv (x &&& ~~~mk)))).setCell ⟨PX, 1, none⟩ (.int .u64 (iv mk))) = W2
  intro HA2 HR2 HX2 HG2
  go_cut [] (fun wx => ∃ ul uh : Int, (0 ≤ ul ∧ ul ≤ iv x ∧ iv x ≤ uh ∧ uh ≤ 18446744073709551615) ∧ AtA wx PA #[.int .u64 (iv mk), .int .u64 dn, .int .u64 up, .int .u64 ls, .int .u64 mo, .int .u32 hf, .int .u32 tp] 43 ∧ AtA wx PR #[.int .u64 0, .int .u64 0, .int .u64 0, .int .u64 0, .int .i64 0, .int .i64 0, .int .u64 0, .int .u64 0, .int .i64 0, .int .i64 0] 30 ∧ AtA wx PX #[.int .u64 (iv (x &&& ~~~mk)), .int .u64 (iv mk), .int .u64 ul, .int .u64 uh, .int .i64 (-9223372036854775808), .int .i64 9223372036854775807, .int .u64 0, .int .u64 4294967295, .int .i64 (-2147483648), .int .i64 2147483647] 30 ∧ Gr w wx)
  case first =>
    have a1 := HA2.out.cell 1
    have a2 := HA2.out.cell 2
    have f2 := HX2.out.f 2
    have f3 := HX2.out.f 3
    have d2 := HX2.out.cell 2
    have d3 := HX2.out.cell 3
    simp only [List.getElem?_toArray, List.getElem?_cons_zero, List.getElem?_cons_succ] at a1 a2 d2 d3
    have z1 := HX.out
    unfold InU at z1
    have z2 : IntKind.u64.wrap (18446744073709551615 - iv x) = 18446744073709551615 - iv x := by rw [IntKind.wrap_u64]; omega
    rcases Int.lt_or_le dn (iv x) with m1 | m1 <;> rcases Int.lt_or_le up (18446744073709551615 - iv x) with m2 | m2
    all_goals
      go_wp2_with fail
      all_goals first | omega | skip
      go_meet
      case rel =>
        have z3 := H1.out
        unfold InU at z3
        refine ⟨_, _, ?_, HA2.out.other (by omega) _ |>.other (by omega) _, HR2.out.other (by omega) _ |>.other (by omega) _, set2 HX2.out _ _, (HG2.out.set (by omega) _).set (by omega) _⟩
        try simp only [IntKind.wrap_u64]
        omega
  case rest =>
    obtain ⟨ul, uh, hu, ha, hr, hx, hg⟩ := hcut
    have HU : Hid (0 ≤ ul ∧ ul ≤ iv x ∧ iv x ≤ uh ∧ uh ≤ 18446744073709551615) := hu
    have HA3 : Hid (AtA wc PA #[.int .u64 (iv mk), .int .u64 dn, .int .u64 up, .int .u64 ls, .int .u64 mo, .int .u32 hf, .int .u32 tp] 43) := ha
    have HR3 : Hid (AtA wc PR #[.int .u64 0, .int .u64 0, .int .u64 0, .int .u64 0, .int .i64 0, .int .i64 0, .int .u64 0, .int .u64 0, .int .i64 0, .int .i64 0] 30) := hr
    have HX3 : Hid (AtA wc PX #[.int .u64 (iv (x &&& ~~~mk)), .int .u64 (iv mk), .int .u64 ul, .int .u64 uh, .int .i64 (-9223372036854775808), .int .i64 9223372036854775807, .int .u64 0, .int .u64 4294967295, .int .i64 (-2147483648), .int .i64 2147483647] 30) := hx
    have HG3 : Hid (Gr w wc) := hg
    clear hu ha hr hx hg HA2 HR2 HX2 HG2
    obtain ⟨l, ql⟩ : ∃ l, IntKind.u64.wrap (iv x + 9223372036854775808) = l := ⟨_, rfl⟩
    have HL : Hid (0 ≤ l ∧ l ≤ 18446744073709551615 ∧ l - 9223372036854775808 = wrap64 (iv x)) := by
      have z1 := HX.out
      unfold InU at z1
      have : 0 ≤ l ∧ l ≤ 18446744073709551615 ∧ l - 9223372036854775808 = wrap64 (iv x) := by
        rw [← ql, IntKind.wrap_u64]
        unfold wrap64
        omega
      exact this
    go_upto_region 5 with fail
    go_cut [] (fun wx => ∃ sl sh : Int, (-9223372036854775808 ≤ sl ∧ sl ≤ wrap64 (iv x) ∧ wrap64 (iv x) ≤ sh ∧ sh ≤ 9223372036854775807) ∧ AtA wx PA #[.int .u64 (iv mk), .int .u64 dn, .int .u64 up, .int .u64 ls, .int .u64 mo, .int .u32 hf, .int .u32 tp] 43 ∧ AtA wx PR #[.int .u64 0, .int .u64 0, .int .u64 0, .int .u64 0, .int .i64 0, .int .i64 0, .int .u64 0, .int .u64 0, .int .i64 0, .int .i64 0] 30 ∧ AtA wx PX #[.int .u64 (iv (x &&& ~~~mk)), .int .u64 (iv mk), .int .u64 ul, .int .u64 uh, .int .i64 sl, .int .i64 sh, .int .u64 0, .int .u64 4294967295, .int .i64 (-2147483648), .int .i64 2147483647] 30 ∧ Gr w wx)
    case first =>
      have a1 := HA3.out.cell 3
      have a2 := HA3.out.cell 4
      have f2 := HX3.out.f 4
      have f3 := HX3.out.f 5
      have d2 := HX3.out.cell 4
      have d3 := HX3.out.cell 5
      simp only [List.getElem?_toArray, List.getElem?_cons_zero, List.getElem?_cons_succ] at a1 a2 d2 d3
      have z1 := HL.out
      have z2 : IntKind.u64.wrap (18446744073709551615 - l) = 18446744073709551615 - l := by rw [IntKind.wrap_u64]; omega
      rcases Int.lt_or_le ls l with m1 | m1 <;> rcases Int.lt_or_le mo (18446744073709551615 - l) with m2 | m2
      all_goals
        go_wp2_with fail
        all_goals first | omega | skip
        go_meet
        case rel =>
          have z3 := H1.out
          unfold InU at z3
          refine ⟨_, _, ?_, HA3.out.other (by omega) _ |>.other (by omega) _, HR3.out.other (by omega) _ |>.other (by omega) _, set4 HX3.out _ _, (HG3.out.set (by omega) _).set (by omega) _⟩
          rw [← z1.2.2]
          try simp only [IntKind.wrap_u64, wrap64]
          omega
    case rest =>
      obtain ⟨sl, sh, hu, ha, hr, hx, hg⟩ := hcut
      have HS : Hid (-9223372036854775808 ≤ sl ∧ sl ≤ wrap64 (iv x) ∧ wrap64 (iv x) ≤ sh ∧ sh ≤ 9223372036854775807) := hu
      have HA4 : Hid (AtA wc PA #[.int .u64 (iv mk), .int .u64 dn, .int .u64 up, .int .u64 ls, .int .u64 mo, .int .u32 hf, .int .u32 tp] 43) := ha
      have HR4 : Hid (AtA wc PR #[.int .u64 0, .int .u64 0, .int .u64 0, .int .u64 0, .int .i64 0, .int .i64 0, .int .u64 0, .int .u64 0, .int .i64 0, .int .i64 0] 30) := hr
      have HX4 : Hid (AtA wc PX #[.int .u64 (iv (x &&& ~~~mk)), .int .u64 (iv mk), .int .u64 ul, .int .u64 uh, .int .i64 sl, .int .i64 sh, .int .u64 0, .int .u64 4294967295, .int .i64 (-2147483648), .int .i64 2147483647] 30) := hx
      have HG4 : Hid (Gr w wc) := hg
      clear hu ha hr hx hg HA3 HR3 HX3 HG3
      have r1 : (iv x).tmod 4294967296 = iv x % 4294967296 := Int.tmod_eq_emod_of_nonneg HX.out.1
      obtain ⟨k, hk⟩ : ∃ k, iv x % 4294967296 = k := ⟨_, rfl⟩
      have HK : Hid (0 ≤ k ∧ k ≤ 4294967295 ∧ iv x % 4294967296 = k) := by
        have z1 := HX.out
        unfold InU at z1
        have : 0 ≤ k ∧ k ≤ 4294967295 ∧ iv x % 4294967296 = k := by omega
        exact this
      have r2 : IntKind.u64.wrap k = k := by
        have := HK.out
        rw [IntKind.wrap_u64]; omega
      rw [hk] at r1
      clear hk
      go_upto_region 7 with fail
      go_cut [] (fun wx => ∃ wl wh : Int, (0 ≤ wl ∧ wl ≤ k ∧ k ≤ wh ∧ wh ≤ 4294967295) ∧ AtA wx PA #[.int .u64 (iv mk), .int .u64 dn, .int .u64 up, .int .u64 ls, .int .u64 mo, .int .u32 hf, .int .u32 tp] 43 ∧ AtA wx PR #[.int .u64 0, .int .u64 0, .int .u64 0, .int .u64 0, .int .i64 0, .int .i64 0, .int .u64 0, .int .u64 0, .int .i64 0, .int .i64 0] 30 ∧ AtA wx PX #[.int .u64 (iv (x &&& ~~~mk)), .int .u64 (iv mk), .int .u64 ul, .int .u64 uh, .int .i64 sl, .int .i64 sh, .int .u64 wl, .int .u64 wh, .int .i64 (-2147483648), .int .i64 2147483647] 30 ∧ Gr w wx)
      case first =>
        have a1 := HA4.out.cell 5
        have a2 := HA4.out.cell 6
        have f2 := HX4.out.f 6
        have f3 := HX4.out.f 7
        have d2 := HX4.out.cell 6
        have d3 := HX4.out.cell 7
        simp only [List.getElem?_toArray, List.getElem?_cons_zero, List.getElem?_cons_succ] at a1 a2 d2 d3
        have z1 := HK.out
        have z3 := H1.out
        have z2 : IntKind.u64.wrap (4294967295 - k) = 4294967295 - k := by rw [IntKind.wrap_u64]; omega
        have z4 : IntKind.u64.wrap hf = hf := by rw [IntKind.wrap_u64]; omega
        have z5 : IntKind.u64.wrap tp = tp := by rw [IntKind.wrap_u64]; omega
        rcases Int.lt_or_le hf k with m1 | m1 <;> rcases Int.lt_or_le tp (4294967295 - k) with m2 | m2
        all_goals
          go_wp2_with fail
          all_goals first | omega | skip
          go_meet
          case rel =>
            refine ⟨_, _, ?_, HA4.out.other (by omega) _ |>.other (by omega) _, HR4.out.other (by omega) _ |>.other (by omega) _, set6 HX4.out _ _, (HG4.out.set (by omega) _).set (by omega) _⟩
            try simp only [IntKind.wrap_u64]
            omega
      case rest =>
        obtain ⟨wl, wh, hu, ha, hr, hx, hg⟩ := hcut
        have HW : Hid (0 ≤ wl ∧ wl ≤ k ∧ k ≤ wh ∧ wh ≤ 4294967295) := hu
        have HR5 : Hid (AtA wc PR #[.int .u64 0, .int .u64 0, .int .u64 0, .int .u64 0, .int .i64 0, .int .i64 0, .int .u64 0, .int .u64 0, .int .i64 0, .int .i64 0] 30) := hr
        have HX5 : Hid (AtA wc PX #[.int .u64 (iv (x &&& ~~~mk)), .int .u64 (iv mk), .int .u64 ul, .int .u64 uh, .int .i64 sl, .int .i64 sh, .int .u64 wl, .int .u64 wh, .int .i64 (-2147483648), .int .i64 2147483647] 30) := hx
        have HG5 : Hid (Gr w wc) := hg
        clear hu ha hr hx hg HA4 HR4 HX4 HG4 ql r1 r2 q1
        have l0 := HX5.out.cell 0
        have l1 := HX5.out.cell 1
        have l2 := HX5.out.cell 2
        have l3 := HX5.out.cell 3
        have l4 := HX5.out.cell 4
        have l5 := HX5.out.cell 5
        have l6 := HX5.out.cell 6
        have l7 := HX5.out.cell 7
        have l8 := HX5.out.cell 8
        have l9 := HX5.out.cell 9
        simp only [List.getElem?_toArray, List.getElem?_cons_zero, List.getElem?_cons_succ] at l0 l1 l2 l3 l4 l5 l6 l7 l8 l9
        have f0 := (HR5.out).f 0
        have f1 := (HR5.out).f 1
        have f2 := (HR5.out).f 2
        have f3 := (HR5.out).f 3
        have f4 := (HR5.out).f 4
        have f5 := (HR5.out).f 5
        have f6 := (HR5.out).f 6
        have f7 := (HR5.out).f 7
        have f8 := (HR5.out).f 8
        have f9 := (HR5.out).f 9
        have d0 := (HR5.out).cell 0
        have d1 := (HR5.out).cell 1
        have d2 := (HR5.out).cell 2
        have d3 := (HR5.out).cell 3
        have d4 := (HR5.out).cell 4
        have d5 := (HR5.out).cell 5
        have d6 := (HR5.out).cell 6
        have d7 := (HR5.out).cell 7
        have d8 := (HR5.out).cell 8
        have d9 := (HR5.out).cell 9
        simp only [List.getElem?_toArray, List.getElem?_cons_zero, List.getElem?_cons_succ] at d0 d1 d2 d3 d4 d5 d6 d7 d8 d9
        have hz := (((((((((((HR5.out).st 0 (.int .u64 (iv (x &&& ~~~mk)))).st 1 (.int .u64 (iv mk))).st 2 (.int .u64 ul)).st 3 (.int .u64 uh)).st 4 (.int .i64 sl)).st 5 (.int .i64 sh)).st 6 (.int .u64 wl)).st 7 (.int .u64 wh)).st 8 (.int .i64 (-2147483648))).st 9 (.int .i64 2147483647))
        simp only [List.setIfInBounds_toArray, List.set_cons_zero, List.set_cons_succ] at hz
        have e0 := hz.cell 0
        have e1 := hz.cell 1
        have e2 := hz.cell 2
        have e3 := hz.cell 3
        have e4 := hz.cell 4
        have e5 := hz.cell 5
        have e6 := hz.cell 6
        have e7 := hz.cell 7
        have e8 := hz.cell 8
        have e9 := hz.cell 9
        simp only [List.getElem?_toArray, List.getElem?_cons_zero, List.getElem?_cons_succ] at e0 e1 e2 e3 e4 e5 e6 e7 e8 e9
        clear hz
        go_wp2_with fail
        refine bodyPost_ret (by simp [results, Tryz.results23, go_sem, e0, e1, e2, e3, e4, e5, e6, e7, e8, e9]; try rfl) rfl ?_
        refine ⟨⟨x &&& ~~~mk, mk, ul, uh, sl, sh, wl, wh, -2147483648, 2147483647⟩, ?_, ?_, rfl, ((((((((((HG5.out.set (by omega) _).set (by omega) _).set (by omega) _).set (by omega) _).set (by omega) _).set (by omega) _).set (by omega) _).set (by omega) _).set (by omega) _).set (by omega) _)⟩
        · have z1 := HU.out
          have z2 := HS.out
          have z3 := HW.out
          refine ⟨?_, by show 0 ≤ ul; omega, by show ul ≤ uh; omega, by show uh ≤ _; omega, by show _ ≤ sl; omega, by show sl ≤ sh; omega, by show sh ≤ _; omega, by show 0 ≤ wl; omega, by show wl ≤ wh; omega, by show wh ≤ _; omega, by show (-2147483648 : Int) ≤ -2147483648; omega, by show (-2147483648 : Int) ≤ 2147483647; omega, by show (2147483647 : Int) ≤ 2147483647; omega⟩
          show x &&& ~~~mk &&& mk = 0#64
          ext i hi
          simp
        · have z1 := HU.out
          have z2 := HS.out
          have z3 := HW.out
          have z4 := HK.out
          have z5 : -2147483648 ≤ sg (iv x) ∧ sg (iv x) ≤ 2147483647 := by unfold sg; omega
          exact ⟨rfl, z1.2.1, z1.2.2.1, z2.2.1, z2.2.2.1, by show wl ≤ _; omega, by show _ ≤ wh; omega, z5.1, z5.2⟩
end Go.Proofs.YtekenpgagfmgkaaGreat
end
section
namespace Go.Proofs.YtekenpgagfmgkaaGreat
open Go.ChangeShapes Go.WideShapes Go.ChangeAt Go.RowKit
open Tn (iv)
set_option linter.unusedVariables false
set_option maxRecDepth 20000

set_option maxHeartbeats 8000000 in
theorem meet_go (atv atm : BitVec 64) (aul auh asl ash awl awh avl avh : Int) (btv btm : BitVec 64) (bul buh bsl bsh bwl bwh bvl bvh : Int) (r : Bd) (hr : syncM ⟨(Tn.mtV atv atm btv btm), (Tn.mtM atv atm btv btm), (eN (decide (min auh buh < max aul bul)) 1 (max aul bul)), (eN (decide (min auh buh < max aul bul)) 0 (min auh buh)), (eN (decide (min ash bsh < max asl bsl)) 1 (max asl bsl)), (eN (decide (min ash bsh < max asl bsl)) 0 (min ash bsh)), (eN (decide (min awh bwh < max awl bwl)) 1 (max awl bwl)), (eN (decide (min awh bwh < max awl bwl)) 0 (min awh bwh)), (eN (decide (min avh bvh < max avl bvl)) 1 (max avl bvl)), (eN (decide (min avh bvh < max avl bvl)) 0 (min avh bvh))⟩ = r) (hu1 : InU (eN (decide (min auh buh < max aul bul)) 1 (max aul bul))) (hu2 : InU (eN (decide (min auh buh < max aul bul)) 0 (min auh buh))) (hs1 : InS (eN (decide (min ash bsh < max asl bsl)) 1 (max asl bsl))) (hs2 : InS (eN (decide (min ash bsh < max asl bsl)) 0 (min ash bsh))) (n1 : nn aul auh asl ash awl awh avl avh = false) (n2 : nn bul buh bsl bsh bwl bwh bvl bvh = false) (hx : Tn.meetX atv atm btv btm = true) (w : World) : Calls Tryz.prog 21 #[.agg #[.int .u64 (iv atv), .int .u64 (iv atm), .int .u64 aul, .int .u64 auh, .int .i64 asl, .int .i64 ash, .int .u64 awl, .int .u64 awh, .int .i64 avl, .int .i64 avh], .agg #[.int .u64 (iv btv), .int .u64 (iv btm), .int .u64 bul, .int .u64 buh, .int .i64 bsl, .int .i64 bsh, .int .u64 bwl, .int .u64 bwh, .int .i64 bvl, .int .i64 bvh]] w fun e w' => e = .returned (.agg #[.int .u64 (iv r.tv), .int .u64 (iv r.tm), .int .u64 r.ul, .int .u64 r.uh, .int .i64 r.sl, .int .i64 r.sh, .int .u64 r.wl, .int .u64 r.wh, .int .i64 r.vl, .int .i64 r.vh]) ∧ Gr w w' := by
  have HH : Hid (syncM ⟨(Tn.mtV atv atm btv btm), (Tn.mtM atv atm btv btm), (eN (decide (min auh buh < max aul bul)) 1 (max aul bul)), (eN (decide (min auh buh < max aul bul)) 0 (min auh buh)), (eN (decide (min ash bsh < max asl bsl)) 1 (max asl bsl)), (eN (decide (min ash bsh < max asl bsl)) 0 (min ash bsh)), (eN (decide (min awh bwh < max awl bwl)) 1 (max awl bwl)), (eN (decide (min awh bwh < max awl bwl)) 0 (min awh bwh)), (eN (decide (min avh bvh < max avl bvl)) 1 (max avl bvl)), (eN (decide (min avh bvh < max avl bvl)) 0 (min avh bvh))⟩ = r) := hr
  clear hr
  have HA : Hid (AtA (((w.alloc (.cells #[.int .u64 (iv atv), .int .u64 (iv atm), .int .u64 aul, .int .u64 auh, .int .i64 asl, .int .i64 ash, .int .u64 awl, .int .u64 awh, .int .i64 avl, .int .i64 avh] 30)).alloc (.cells #[.int .u64 (iv btv), .int .u64 (iv btm), .int .u64 bul, .int .u64 buh, .int .i64 bsl, .int .i64 bsh, .int .u64 bwl, .int .u64 bwh, .int .i64 bvl, .int .i64 bvh] 30)).alloc (.cells #[.int .u64 0, .int .u64 0, .int .u64 0, .int .u64 0, .int .i64 0, .int .i64 0, .int .u64 0, .int .u64 0, .int .i64 0, .int .i64 0] 30)) w.heap.size #[.int .u64 (iv atv), .int .u64 (iv atm), .int .u64 aul, .int .u64 auh, .int .i64 asl, .int .i64 ash, .int .u64 awl, .int .u64 awh, .int .i64 avl, .int .i64 avh] 30) := ((AtA.newb _ (by simp) _ _).alloc _).alloc _
  have HB : Hid (AtA (((w.alloc (.cells #[.int .u64 (iv atv), .int .u64 (iv atm), .int .u64 aul, .int .u64 auh, .int .i64 asl, .int .i64 ash, .int .u64 awl, .int .u64 awh, .int .i64 avl, .int .i64 avh] 30)).alloc (.cells #[.int .u64 (iv btv), .int .u64 (iv btm), .int .u64 bul, .int .u64 buh, .int .i64 bsl, .int .i64 bsh, .int .u64 bwl, .int .u64 bwh, .int .i64 bvl, .int .i64 bvh] 30)).alloc (.cells #[.int .u64 0, .int .u64 0, .int .u64 0, .int .u64 0, .int .i64 0, .int .i64 0, .int .u64 0, .int .u64 0, .int .i64 0, .int .i64 0] 30)) (w.heap.size + 1) #[.int .u64 (iv btv), .int .u64 (iv btm), .int .u64 bul, .int .u64 buh, .int .i64 bsl, .int .i64 bsh, .int .u64 bwl, .int .u64 bwh, .int .i64 bvl, .int .i64 bvh] 30) := (AtA.newb _ (by simp) _ _).alloc _
  have HR : Hid (AtA (((w.alloc (.cells #[.int .u64 (iv atv), .int .u64 (iv atm), .int .u64 aul, .int .u64 auh, .int .i64 asl, .int .i64 ash, .int .u64 awl, .int .u64 awh, .int .i64 avl, .int .i64 avh] 30)).alloc (.cells #[.int .u64 (iv btv), .int .u64 (iv btm), .int .u64 bul, .int .u64 buh, .int .i64 bsl, .int .i64 bsh, .int .u64 bwl, .int .u64 bwh, .int .i64 bvl, .int .i64 bvh] 30)).alloc (.cells #[.int .u64 0, .int .u64 0, .int .u64 0, .int .u64 0, .int .i64 0, .int .i64 0, .int .u64 0, .int .u64 0, .int .i64 0, .int .i64 0] 30)) (w.heap.size + 1 + 1) #[.int .u64 0, .int .u64 0, .int .u64 0, .int .u64 0, .int .i64 0, .int .i64 0, .int .u64 0, .int .u64 0, .int .i64 0, .int .i64 0] 30) := AtA.newb _ (by simp) _ _
  have HF : Hid (Gr w (((w.alloc (.cells #[.int .u64 (iv atv), .int .u64 (iv atm), .int .u64 aul, .int .u64 auh, .int .i64 asl, .int .i64 ash, .int .u64 awl, .int .u64 awh, .int .i64 avl, .int .i64 avh] 30)).alloc (.cells #[.int .u64 (iv btv), .int .u64 (iv btm), .int .u64 bul, .int .u64 buh, .int .i64 bsl, .int .i64 bsh, .int .u64 bwl, .int .u64 bwh, .int .i64 bvl, .int .i64 bvh] 30)).alloc (.cells #[.int .u64 0, .int .u64 0, .int .u64 0, .int .u64 0, .int .i64 0, .int .i64 0, .int .u64 0, .int .u64 0, .int .i64 0, .int .i64 0] 30))) := (⟨by go_grown, by go_grown⟩ : Gr w _)
  have i0 := (HA.out.cell 0)
  have i1 := (HA.out.cell 1)
  have i2 := (HB.out.cell 0)
  have i3 := (HB.out.cell 1)
  simp only [List.getElem?_toArray, List.getElem?_cons_zero, List.getElem?_cons_succ] at i0 i1 i2 i3
  go_enter Tryz.func21, Tryz.ntmps21
  go_upto_region 4 with (first
    | (go_at_call 58; refine (cv (Tn.meet_any _ _ _ _ _)).mono ?_; rintro e w1 ⟨rfl, hg⟩; have hsz : w.heap.size + 3 ≤ w1.heap.size := (by have := hg.below.size; simp at this; omega); have ha1 : Hid (AtA (w1.alloc (.cells #[.int .u64 (iv (Tn.mtV atv atm btv btm)), .int .u64 (iv (Tn.mtM atv atm btv btm))] 24)) w.heap.size _ 30) := (HA.out.gr hg).alloc _; have hb1 : Hid (AtA (w1.alloc (.cells #[.int .u64 (iv (Tn.mtV atv atm btv btm)), .int .u64 (iv (Tn.mtM atv atm btv btm))] 24)) (w.heap.size + 1) _ 30) := (HB.out.gr hg).alloc _; have hr1 : Hid (AtA (w1.alloc (.cells #[.int .u64 (iv (Tn.mtV atv atm btv btm)), .int .u64 (iv (Tn.mtM atv atm btv btm))] 24)) (w.heap.size + 1 + 1) _ 30) := (HR.out.gr hg).alloc _; have ht1 : Hid (AtA (w1.alloc (.cells #[.int .u64 (iv (Tn.mtV atv atm btv btm)), .int .u64 (iv (Tn.mtM atv atm btv btm))] 24)) w1.heap.size _ 24) := AtA.newb _ rfl _ _; have hg1 : Hid (Gr w (w1.alloc (.cells #[.int .u64 (iv (Tn.mtV atv atm btv btm)), .int .u64 (iv (Tn.mtM atv atm btv btm))] 24))) := (HF.out.trans hg).alloc _ _; clear hg; have a0 := (ha1.out).cell 0; have a1 := (ha1.out).cell 1; have a2 := (ha1.out).cell 2; have a3 := (ha1.out).cell 3; have a4 := (ha1.out).cell 4; have a5 := (ha1.out).cell 5; have a6 := (ha1.out).cell 6; have a7 := (ha1.out).cell 7; have a8 := (ha1.out).cell 8; have a9 := (ha1.out).cell 9; have b0 := (hb1.out).cell 0; have b1 := (hb1.out).cell 1; have b2 := (hb1.out).cell 2; have b3 := (hb1.out).cell 3; have b4 := (hb1.out).cell 4; have b5 := (hb1.out).cell 5; have b6 := (hb1.out).cell 6; have b7 := (hb1.out).cell 7; have b8 := (hb1.out).cell 8; have b9 := (hb1.out).cell 9; have t0 := (ht1.out).cell 0; have t1 := (ht1.out).cell 1; simp only [List.getElem?_toArray, List.getElem?_cons_zero, List.getElem?_cons_succ] at a0 a1 a2 a3 a4 a5 a6 a7 a8 a9 b0 b1 b2 b3 b4 b5 b6 b7 b8 b9 t0 t1)
    | (go_at_call 15; refine (None_q _ _ _ _ _ _ _ _ _ _ _ (by with_reducible assumption) _).mono ?_; rintro e w2 ⟨rfl, hg⟩; have ha2 := ha1.out.gr hg; have hb2 := hb1.out.gr hg; have hr2 := hr1.out.gr hg; have ht2 := ht1.out.gr hg; have hg2 := hg1.out.trans hg; clear ha1 hb1 hr1 ht1 hg1 hg; clear a0 a1 a2 a3 a4 a5 a6 a7 a8 a9 b0 b1 b2 b3 b4 b5 b6 b7 b8 b9 t0 t1; have ha1 : Hid (AtA w2 w.heap.size _ 30) := ha2; have hb1 : Hid (AtA w2 (w.heap.size + 1) _ 30) := hb2; have hr1 : Hid (AtA w2 (w.heap.size + 1 + 1) _ 30) := hr2; have ht1 : Hid (AtA w2 w1.heap.size _ 24) := ht2; have hg1 : Hid (Gr w w2) := hg2; clear ha2 hb2 hr2 ht2 hg2; have a0 := (ha1.out).cell 0; have a1 := (ha1.out).cell 1; have a2 := (ha1.out).cell 2; have a3 := (ha1.out).cell 3; have a4 := (ha1.out).cell 4; have a5 := (ha1.out).cell 5; have a6 := (ha1.out).cell 6; have a7 := (ha1.out).cell 7; have a8 := (ha1.out).cell 8; have a9 := (ha1.out).cell 9; have b0 := (hb1.out).cell 0; have b1 := (hb1.out).cell 1; have b2 := (hb1.out).cell 2; have b3 := (hb1.out).cell 3; have b4 := (hb1.out).cell 4; have b5 := (hb1.out).cell 5; have b6 := (hb1.out).cell 6; have b7 := (hb1.out).cell 7; have b8 := (hb1.out).cell 8; have b9 := (hb1.out).cell 9; have t0 := (ht1.out).cell 0; have t1 := (ht1.out).cell 1; simp only [List.getElem?_toArray, List.getElem?_cons_zero, List.getElem?_cons_succ] at a0 a1 a2 a3 a4 a5 a6 a7 a8 a9 b0 b1 b2 b3 b4 b5 b6 b7 b8 b9 t0 t1))
  go_region_held3 (fun w' => w'.cell? ⟨w.heap.size, 2, none⟩ = some (.int .u64 aul) ∧ w'.cell? ⟨w.heap.size, 3, none⟩ = some (.int .u64 auh) ∧ w'.cell? ⟨w.heap.size, 4, none⟩ = some (.int .i64 asl) ∧ w'.cell? ⟨w.heap.size, 5, none⟩ = some (.int .i64 ash) ∧ w'.cell? ⟨w.heap.size, 6, none⟩ = some (.int .u64 awl) ∧ w'.cell? ⟨w.heap.size, 7, none⟩ = some (.int .u64 awh) ∧ w'.cell? ⟨w.heap.size, 8, none⟩ = some (.int .i64 avl) ∧ w'.cell? ⟨w.heap.size, 9, none⟩ = some (.int .i64 avh) ∧ w'.cell? ⟨w.heap.size + 1, 2, none⟩ = some (.int .u64 bul) ∧ w'.cell? ⟨w.heap.size + 1, 3, none⟩ = some (.int .u64 buh) ∧ w'.cell? ⟨w.heap.size + 1, 4, none⟩ = some (.int .i64 bsl) ∧ w'.cell? ⟨w.heap.size + 1, 5, none⟩ = some (.int .i64 bsh) ∧ w'.cell? ⟨w.heap.size + 1, 6, none⟩ = some (.int .u64 bwl) ∧ w'.cell? ⟨w.heap.size + 1, 7, none⟩ = some (.int .u64 bwh) ∧ w'.cell? ⟨w.heap.size + 1, 8, none⟩ = some (.int .i64 bvl) ∧ w'.cell? ⟨w.heap.size + 1, 9, none⟩ = some (.int .i64 bvh) ∧ w'.cell? ⟨w1.heap.size, 0, none⟩ = some (.int .u64 (iv (Tn.mtV atv atm btv btm))) ∧ w'.cell? ⟨w1.heap.size, 1, none⟩ = some (.int .u64 (iv (Tn.mtM atv atm btv btm)))) ((refine ⟨?_, ?_, ?_, ?_, ?_, ?_, ?_, ?_, ?_, ?_, ?_, ?_, ?_, ?_, ?_, ?_, ?_, ?_⟩ <;> repeat (with_reducible (first | assumption | apply cell_al | apply cell_dr | (refine cell_gr (by assumption) ?_) | (refine cst (by simp <;> omega) ?_)))))
    (first
    | (go_at_call 59; refine (meet_u _ _ _ _ _).mono ?_; rintro e w3 ⟨rfl, hg⟩; replace hr1 : Hid (AtA w3 (w.heap.size + 1 + 1) _ 30) := (by first | exact hr1.out.gr hg | exact hr1.out.drew.gr hg); replace hg1 : Hid (Gr w w3) := hg1.out.trans (by first | exact hg | exact drew_gr hg))
    | (go_at_call 60; refine (meet_s _ _ _ _ _).mono ?_; rintro e w3 ⟨rfl, hg⟩; replace hr1 : Hid (AtA w3 (w.heap.size + 1 + 1) _ 30) := (by first | exact hr1.out.gr hg | exact hr1.out.drew.gr hg); replace hg1 : Hid (Gr w w3) := hg1.out.trans (by first | exact hg | exact drew_gr hg))
    | (go_at_call 11; refine (sync_q _ _ _ _ _ _ _ _ _ _ r HH.out hu1 hu2 hs1 hs2 _).mono ?_; rintro e w3 ⟨rfl, hg⟩; replace hr1 : Hid (AtA w3 (w.heap.size + 1 + 1) _ 30) := (by first | exact hr1.out.gr hg | exact hr1.out.drew.gr hg); replace hg1 : Hid (Gr w w3) := hg1.out.trans (by first | exact hg | exact drew_gr hg)
       have f0 := (hr1.out).f 0
       have f1 := (hr1.out).f 1
       have f2 := (hr1.out).f 2
       have f3 := (hr1.out).f 3
       have f4 := (hr1.out).f 4
       have f5 := (hr1.out).f 5
       have f6 := (hr1.out).f 6
       have f7 := (hr1.out).f 7
       have f8 := (hr1.out).f 8
       have f9 := (hr1.out).f 9
       have d0 := (hr1.out).cell 0
       have d1 := (hr1.out).cell 1
       have d2 := (hr1.out).cell 2
       have d3 := (hr1.out).cell 3
       have d4 := (hr1.out).cell 4
       have d5 := (hr1.out).cell 5
       have d6 := (hr1.out).cell 6
       have d7 := (hr1.out).cell 7
       have d8 := (hr1.out).cell 8
       have d9 := (hr1.out).cell 9
       simp only [List.getElem?_toArray, List.getElem?_cons_zero, List.getElem?_cons_succ] at d0 d1 d2 d3 d4 d5 d6 d7 d8 d9
       have hz := (((((((((((hr1.out).st 0 (.int .u64 (iv r.tv))).st 1 (.int .u64 (iv r.tm))).st 2 (.int .u64 r.ul)).st 3 (.int .u64 r.uh)).st 4 (.int .i64 r.sl)).st 5 (.int .i64 r.sh)).st 6 (.int .u64 r.wl)).st 7 (.int .u64 r.wh)).st 8 (.int .i64 r.vl)).st 9 (.int .i64 r.vh))
       simp only [List.setIfInBounds_toArray, List.set_cons_zero, List.set_cons_succ] at hz
       have e0 := hz.cell 0
       have e1 := hz.cell 1
       have e2 := hz.cell 2
       have e3 := hz.cell 3
       have e4 := hz.cell 4
       have e5 := hz.cell 5
       have e6 := hz.cell 6
       have e7 := hz.cell 7
       have e8 := hz.cell 8
       have e9 := hz.cell 9
       simp only [List.getElem?_toArray, List.getElem?_cons_zero, List.getElem?_cons_succ] at e0 e1 e2 e3 e4 e5 e6 e7 e8 e9
       clear hz
))
  all_goals go_wp2_with fail
  all_goals refine bodyPost_ret (by simp [results, Tryz.results21, go_sem, e0, e1, e2, e3, e4, e5, e6, e7, e8, e9]; try rfl) rfl ?_
  all_goals exact ⟨rfl, ((((((((((hg1.out.set (by omega) _).set (by omega) _).set (by omega) _).set (by omega) _).set (by omega) _).set (by omega) _).set (by omega) _).set (by omega) _).set (by omega) _).set (by omega) _)⟩
end Go.Proofs.YtekenpgagfmgkaaGreat
end
section
namespace Go.Proofs.YtekenpgagfmgkaaGreat
open Go.ChangeShapes Go.WideShapes Go.ChangeAt Go.RowKit
open Tn (iv)
set_option linter.unusedVariables false

/-- A bound's ten cells. -/
def bv (b : Bd) : Array Value := #[.int .u64 (iv b.tv), .int .u64 (iv b.tm), .int .u64 b.ul, .int .u64 b.uh, .int .i64 b.sl, .int .i64 b.sh, .int .u64 b.wl, .int .u64 b.wh, .int .i64 b.vl, .int .i64 b.vh]
def zeroM : Bd := ⟨0#64, 0#64, 0, 0, 0, 0, 0, 0, 0, 0⟩
theorem bv_zero : bv zeroM = #[.int .u64 0, .int .u64 0, .int .u64 0, .int .u64 0, .int .i64 0, .int .i64 0, .int .u64 0, .int .u64 0, .int .i64 0, .int .i64 0] := rfl
section
variable {o : Oper} {a : Act} {w : World} {K : Act → World → Prop} {Q : Exit → Act → World → Prop} {p x : Operand} {b : Nat} {c d : Bd}
theorem wp_loadB (ho : o.op = .load 30 p) (hp : a.eval p = .pointer (some ⟨b, 0, none⟩)) (h : AtA w b (bv d) 30) (hK : K (a.put o.dst (.agg (bv d))) w) : o.wp Tryz.prog a w K Q :=
  wp_load_bound ho hp h hK
theorem wp_storeB (ho : o.op = .store 30 p x) (hp : a.eval p = .pointer (some ⟨b, 0, none⟩)) (hx : a.eval x = .agg (bv d)) (h : AtA w b (bv c) 30)
    (hK : ∀ w', AtA w' b (bv d) 30 → GrX b w w' → K (a.put o.dst undef) w') : o.wp Tryz.prog a w K Q :=
  wp_store_bound ho hp hx h hK
theorem wp_allocB (ho : o.op = .alloc 30)
    (hK : ∀ w', AtA w' w.heap.size (bv zeroM) 30 → Gr w w' → K (a.put o.dst (.pointer (some ⟨w.heap.size, 0, none⟩))) w') : o.wp Tryz.prog a w K Q :=
  wp_alloc_bound ho (hK _ (AtA.newb _ rfl _ _) (Gr.alloc (Gr.refl w) _ _))
end
section
variable (a b : Bd) (x : BitVec 64) (w : World)
theorem k_sync (g : Good a) : Calls Tryz.prog 11 #[.agg (bv a)] w fun e w' => e = .returned (.agg (bv (syncM a))) ∧ Gr w w' :=
  sync_any a ⟨g.u0, Int.le_trans g.u1 g.u2⟩ ⟨Int.le_trans g.u0 g.u1, g.u2⟩ ⟨g.s0, Int.le_trans g.s1 g.s2⟩ ⟨Int.le_trans g.s0 g.s1, g.s2⟩ w
theorem k_has : Calls Tryz.prog 18 #[.agg (bv a), .int .u64 (iv x)] w fun e w' => e = .returned (.bool (hasM a x)) ∧ Gr w w' :=
  has_all a.tv a.tm a.ul a.uh a.sl a.sh a.wl a.wh a.vl a.vh x w
theorem k_in : Calls Tryz.prog 19 #[.agg (bv a), .agg (bv b)] w fun e w' => e = .returned (.bool (inM a b)) ∧ Gr w w' := by
  refine (in_all a.tv a.tm a.ul a.uh a.sl a.sh a.wl a.wh a.vl a.vh b.tv b.tm b.ul b.uh b.sl b.sh b.wl b.wh b.vl b.vh w).mono ?_
  rintro e w' ⟨rfl, hg⟩
  refine ⟨?_, hg⟩
  simp only [inM, inR, nnB, nn, Bool.and_assoc]
theorem k_none : Calls Tryz.prog 15 #[.agg (bv a)] w fun e w' => e = .returned (.bool (nnB a)) ∧ Gr w w' :=
  None_any a.tv a.tm a.ul a.uh a.sl a.sh a.wl a.wh a.vl a.vh w
theorem k_const : Calls Tryz.prog 13 #[.int .u64 (iv x)] w fun e w' => e = .returned (.agg (bv (constM x))) ∧ Gr w w' := const_any x w
theorem k_any : Calls Tryz.prog 51 #[] w fun e w' => e = .returned (.agg (bv anyM)) ∧ Gr w w' := any_any w
theorem k_meet (ga : Good a) (gb : Good b) (ka : Has a x) (kb : Has b x) : Calls Tryz.prog 21 #[.agg (bv a), .agg (bv b)] w fun e w' => e = .returned (.agg (bv (syncM (meetP a b)))) ∧ Gr w w' := by
  have g := meetP_good ga gb ka kb
  exact meet_go a.tv a.tm a.ul a.uh a.sl a.sh a.wl a.wh a.vl a.vh b.tv b.tm b.ul b.uh b.sl b.sh b.wl b.wh b.vl b.vh _ rfl ⟨g.u0, Int.le_trans g.u1 g.u2⟩ ⟨Int.le_trans g.u0 g.u1, g.u2⟩ ⟨g.s0, Int.le_trans g.s1 g.s2⟩ ⟨Int.le_trans g.s0 g.s1, g.s2⟩ (nnB_of ga) (nnB_of gb) (meetX_of ka kb) w
end
/-- What a bound about a number is told by. -/
structure Ab where
  ma : BitVec 64
  dn : Int
  up : Int
  ls : Int
  mo : Int
  hf : Int
  tp : Int
structure AbOk (v : Ab) : Prop where
  dn : InU v.dn
  up : InU v.up
  ls : InU v.ls
  mo : InU v.mo
  hf : 0 ≤ v.hf ∧ v.hf ≤ 4294967295
  tp : 0 ≤ v.tp ∧ v.tp ≤ 4294967295
def av (v : Ab) : Array Value := #[.int .u64 (iv v.ma), .int .u64 v.dn, .int .u64 v.up, .int .u64 v.ls, .int .u64 v.mo, .int .u32 v.hf, .int .u32 v.tp]
theorem k_of (v : Ab) (h : AbOk v) (x : BitVec 64) (w : World) : Calls Tryz.prog 23 #[.agg (av v), .int .u64 (iv x)] w fun e w' => ∃ b : Bd, Good b ∧ Has b x ∧ e = .returned (.agg (bv b)) ∧ Gr w w' :=
  of_any v.ma x v.dn v.up v.ls v.mo v.hf v.tp h.dn h.up h.ls h.mo h.hf h.tp w
theorem wp_loadA {o : Oper} {a : Act} {w : World} {K : Act → World → Prop} {Q : Exit → Act → World → Prop} {p : Operand} {b : Nat} {v : Ab} (ho : o.op = .load 43 p) (hp : a.eval p = .pointer (some ⟨b, 0, none⟩)) (h : AtA w b (av v) 43) (hK : K (a.put o.dst (.agg (av v))) w) : o.wp Tryz.prog a w K Q :=
  wp_load_about ho hp h hK
end Go.Proofs.YtekenpgagfmgkaaGreat
end
section
namespace Go.Proofs.YtekenpgagfmgkaaGreat
open Go.ChangeShapes Go.WideShapes Go.ChangeAt Go.RowKit
open Tn (iv)
set_option linter.unusedVariables false
set_option linter.unusedSimpArgs false

section
variable {P : Program} {ops : Array Oper} {C : World → Prop}
theorem wpOps_of_quiet {Q : Exit → Act → World → Prop} {R : Act → Prop} (hQ : ∀ a w, C w → R a → Q .normal a w) : ∀ (l : List Oper) (k : Nat) (a : Act) (w : World), (∀ j, l[j]? = ops[k + j]?) → C w → wpQuiet P ops C R l a → wpOps P ops Q (List.range' k l.length) a w
  | [], _, a, w, _, hC, h => hQ a w hC h
  | o :: l, k, a, w, hl, hC, h => by
    have h0 : ops[k]? = some o := by simpa using (hl 0).symm
    have hl' : ∀ j, l[j]? = ops[k + 1 + j]? := fun j => by have := hl (j + 1); simpa [Nat.add_assoc, Nat.add_comm 1 j] using this
    rw [List.length_cons, List.range'_succ]
    unfold wpOps
    simp only [h0]
    unfold wpQuiet at h
    split
    · rename_i hw
      rw [if_pos hw] at h
      exact .inl (Oper.wp_of_quiet hC (fun a' w' hC' hK => wpOps_of_quiet hQ l (k + 1) a' w' hl' hC' hK) h)
    · rename_i hw
      rw [if_neg hw] at h
      exact wpOps_of_quiet hQ l (k + 1) _ w hl' hC h
/-- A region of the text's order, whose operations are quiet in a class of worlds. -/
theorem wp_region_seqq {id : Nat} {Q : Exit → Act → World → Prop} {a : Act} {w : World} {l : List Oper} (hC : C w)
    (h : wpQuiet P l.toArray C (fun a' => ∀ w', C w' → Q .normal a' w') l a) : (Code.region id l.toArray false).wp P Q a w := by
  refine wp_region ?_
  have := wpOps_of_quiet (P := P) (ops := l.toArray) (C := C) (Q := Q) (fun a w hC h => h w hC) l 0 a w (by simp) hC h
  rw [List.range_eq_range']
  simpa using this
theorem wp_region_q {id : Nat} {Q : Exit → Act → World → Prop} {a : Act} {w : World} {l : List Oper} (hm : P.follows .mixedOrders = true) (hB : Region.lexB .any l.toArray = true) (hC : C w.drew)
    (h : wpQuiet P l.toArray C (fun a' => ∀ w', C w' → Q .normal a' w') l a) : (Code.region id l.toArray true).wp P Q a w :=
  wp_region_quiet (C := C) hm hB hC (by simpa using h)
theorem q_do {Q : Act → Prop} {o : Oper} {rest : List Oper} {a : Act} (hw : Region.wanted o (yielded ops a.tmps) = true) (h : o.quiet P a C (wpQuiet P ops C Q rest)) : wpQuiet P ops C Q (o :: rest) a := by
  unfold wpQuiet
  rw [if_pos hw]
  exact h
theorem q_skip {Q : Act → Prop} {o : Oper} {rest : List Oper} {a : Act} (hw : Region.wanted o (yielded ops a.tmps) = false) (h : wpQuiet P ops C Q rest (a.put o.dst undef)) : wpQuiet P ops C Q (o :: rest) a := by
  unfold wpQuiet
  rw [if_neg (by rw [hw]; decide)]
  exact h
theorem q_run {o : Oper} {a : Act} {K : Act → Prop} {v : Value} (h : ∀ w, C w → (execOp a.eval o).run P w = .ok (.value v) w) (hK : K (a.put o.dst v)) : o.quiet P a C K :=
  ⟨v, fun w hw => by unfold Oper.quietAt; rw [h w hw]; exact ⟨rfl, rfl⟩, hK⟩
theorem q_enter {o : Oper} {a : Act} {K : Act → Prop} {v : Value} {f : FuncId} {args : Array Value} (h : ∀ w, (execOp a.eval o).run P w = .ok (.enter f args) w) (hc : ∀ w, C w → Calls P f args w fun e w' => e = .returned v ∧ C w') (hK : K (a.put o.dst v)) : o.quiet P a C K :=
  ⟨v, fun w hw => by unfold Oper.quietAt; rw [h w]; exact ⟨rfl, hc w hw⟩, hK⟩
end
section
variable {o : Oper} {a : Act} {C : World → Prop} {K : Act → Prop} {x y z : Operand}
theorem q_loadB {b : Nat} {d : Bd} (ho : o.op = .load 30 x) (hp : a.eval x = .pointer (some ⟨b, 0, none⟩)) (h : ∀ w, C w → AtA w b (bv d) 30) (hK : K (a.put o.dst (.agg (bv d)))) : o.quiet Tryz.prog a C K := by
  refine q_run (v := .agg (bv d)) (fun w hw => ?_) hK
  have h' := h w hw
  obtain ⟨dst, op, ty, pos, after, guard⟩ := o
  subst ho
  unfold bv at h' ⊢
  have d0 := h'.cell 0
  have d1 := h'.cell 1
  have d2 := h'.cell 2
  have d3 := h'.cell 3
  have d4 := h'.cell 4
  have d5 := h'.cell 5
  have d6 := h'.cell 6
  have d7 := h'.cell 7
  have d8 := h'.cell 8
  have d9 := h'.cell 9
  simp only [List.getElem?_toArray, List.getElem?_cons_zero, List.getElem?_cons_succ] at d0 d1 d2 d3 d4 d5 d6 d7 d8 d9
  simp only [execOp, hp]
  go_simp
theorem q_move {v : Value} (ho : o.op = .move x) (hx : a.eval x = v) (hK : K (a.put o.dst v)) : o.quiet Tryz.prog a C K := by
  refine q_run (v := v) (fun w hw => ?_) hK
  obtain ⟨dst, op, ty, pos, after, guard⟩ := o
  subst ho
  simp only [execOp, hx]
  go_simp
theorem q_assign {v : Value} (ho : o.op = .assign x) (hx : a.eval x = v) (hK : K (a.put o.dst v)) : o.quiet Tryz.prog a C K := by
  refine q_run (v := v) (fun w hw => ?_) hK
  obtain ⟨dst, op, ty, pos, after, guard⟩ := o
  subst ho
  simp only [execOp, hx]
  go_simp
theorem q_not {b c : Bool} {t : TypeId} (ho : o.op = .unOp .not t x) (hx : a.eval x = .bool b) (hc : (!b) = c) (hK : K (a.put o.dst (.bool c))) : o.quiet Tryz.prog a C K := by
  refine q_run (v := .bool c) (fun w hw => ?_) hK
  subst hc
  obtain ⟨dst, op, ty, pos, after, guard⟩ := o
  subst ho
  simp only [execOp, hx]
  go_simp
theorem q_pickT {v : Value} (ho : o.op = .pick x y z) (hx : a.eval x = .bool true) (hy : a.eval y = v) (hK : K (a.put o.dst v)) : o.quiet Tryz.prog a C K := by
  refine q_run (v := v) (fun w hw => ?_) hK
  obtain ⟨dst, op, ty, pos, after, guard⟩ := o
  subst ho
  simp only [execOp, hx, hy]
  go_simp
theorem q_pickF {v : Value} (ho : o.op = .pick x y z) (hx : a.eval x = .bool false) (hy : a.eval z = v) (hK : K (a.put o.dst v)) : o.quiet Tryz.prog a C K := by
  refine q_run (v := v) (fun w hw => ?_) hK
  obtain ⟨dst, op, ty, pos, after, guard⟩ := o
  subst ho
  simp only [execOp, hx, hy]
  go_simp
theorem q_eqB {b c r : Bool} (ho : o.op = .binOp .eql 4 x y 4) (hx : a.eval x = .bool b) (hy : a.eval y = .bool c) (hr : (b == c) = r) (hK : K (a.put o.dst (.bool r))) : o.quiet Tryz.prog a C K := by
  refine q_run (v := .bool r) (fun w hw => ?_) hK
  obtain ⟨dst, op, ty, pos, after, guard⟩ := o
  subst ho
  subst hr
  simp only [execOp, hx, hy]
  go_simp
theorem q_call0 {f : FuncId} {tys : Array TypeId} {v : Value} (ho : o.op = .call { callee := .value (.func f), args := #[], argTypes := tys })  (hf : ∀ w, (callFunc f #[]).run Tryz.prog w = .ok (.enter f #[]) w)
    (hc : ∀ w, C w → Calls Tryz.prog f #[] w fun e w' => e = .returned v ∧ C w') (hK : K (a.put o.dst v)) : o.quiet Tryz.prog a C K := by
  refine q_enter (v := v) (f := f) (args := #[]) (fun w => ?_) hc hK
  obtain ⟨dst, op, ty, pos, after, guard⟩ := o
  subst ho
  have hf := hf w
  simp only [execOp, resolve, List.map_toArray, List.map_cons, List.map_nil]
  go_simp
  try exact hf
theorem q_call1 {f : FuncId} {tys : Array TypeId} {x0 : Operand} {u0 : Value} {v : Value} (ho : o.op = .call { callee := .value (.func f), args := #[x0], argTypes := tys }) (e0 : a.eval x0 = u0) (hf : ∀ w, (callFunc f #[u0]).run Tryz.prog w = .ok (.enter f #[u0]) w)
    (hc : ∀ w, C w → Calls Tryz.prog f #[u0] w fun e w' => e = .returned v ∧ C w') (hK : K (a.put o.dst v)) : o.quiet Tryz.prog a C K := by
  refine q_enter (v := v) (f := f) (args := #[u0]) (fun w => ?_) hc hK
  obtain ⟨dst, op, ty, pos, after, guard⟩ := o
  subst ho
  have hf := hf w
  simp only [execOp, resolve, List.map_toArray, List.map_cons, List.map_nil, e0]
  go_simp
  try exact hf
theorem q_call2 {f : FuncId} {tys : Array TypeId} {x0 : Operand} {u0 : Value} {x1 : Operand} {u1 : Value} {v : Value} (ho : o.op = .call { callee := .value (.func f), args := #[x0, x1], argTypes := tys }) (e0 : a.eval x0 = u0) (e1 : a.eval x1 = u1) (hf : ∀ w, (callFunc f #[u0, u1]).run Tryz.prog w = .ok (.enter f #[u0, u1]) w)
    (hc : ∀ w, C w → Calls Tryz.prog f #[u0, u1] w fun e w' => e = .returned v ∧ C w') (hK : K (a.put o.dst v)) : o.quiet Tryz.prog a C K := by
  refine q_enter (v := v) (f := f) (args := #[u0, u1]) (fun w => ?_) hc hK
  obtain ⟨dst, op, ty, pos, after, guard⟩ := o
  subst ho
  have hf := hf w
  simp only [execOp, resolve, List.map_toArray, List.map_cons, List.map_nil, e0, e1]
  go_simp
  try exact hf
theorem q_call3 {f : FuncId} {tys : Array TypeId} {x0 : Operand} {u0 : Value} {x1 : Operand} {u1 : Value} {x2 : Operand} {u2 : Value} {v : Value} (ho : o.op = .call { callee := .value (.func f), args := #[x0, x1, x2], argTypes := tys }) (e0 : a.eval x0 = u0) (e1 : a.eval x1 = u1) (e2 : a.eval x2 = u2) (hf : ∀ w, (callFunc f #[u0, u1, u2]).run Tryz.prog w = .ok (.enter f #[u0, u1, u2]) w)
    (hc : ∀ w, C w → Calls Tryz.prog f #[u0, u1, u2] w fun e w' => e = .returned v ∧ C w') (hK : K (a.put o.dst v)) : o.quiet Tryz.prog a C K := by
  refine q_enter (v := v) (f := f) (args := #[u0, u1, u2]) (fun w => ?_) hc hK
  obtain ⟨dst, op, ty, pos, after, guard⟩ := o
  subst ho
  have hf := hf w
  simp only [execOp, resolve, List.map_toArray, List.map_cons, List.map_nil, e0, e1, e2]
  go_simp
  try exact hf
theorem q_call4 {f : FuncId} {tys : Array TypeId} {x0 : Operand} {u0 : Value} {x1 : Operand} {u1 : Value} {x2 : Operand} {u2 : Value} {x3 : Operand} {u3 : Value} {v : Value} (ho : o.op = .call { callee := .value (.func f), args := #[x0, x1, x2, x3], argTypes := tys }) (e0 : a.eval x0 = u0) (e1 : a.eval x1 = u1) (e2 : a.eval x2 = u2) (e3 : a.eval x3 = u3) (hf : ∀ w, (callFunc f #[u0, u1, u2, u3]).run Tryz.prog w = .ok (.enter f #[u0, u1, u2, u3]) w)
    (hc : ∀ w, C w → Calls Tryz.prog f #[u0, u1, u2, u3] w fun e w' => e = .returned v ∧ C w') (hK : K (a.put o.dst v)) : o.quiet Tryz.prog a C K := by
  refine q_enter (v := v) (f := f) (args := #[u0, u1, u2, u3]) (fun w => ?_) hc hK
  obtain ⟨dst, op, ty, pos, after, guard⟩ := o
  subst ho
  have hf := hf w
  simp only [execOp, resolve, List.map_toArray, List.map_cons, List.map_nil, e0, e1, e2, e3]
  go_simp
  try exact hf
theorem q_call5 {f : FuncId} {tys : Array TypeId} {x0 : Operand} {u0 : Value} {x1 : Operand} {u1 : Value} {x2 : Operand} {u2 : Value} {x3 : Operand} {u3 : Value} {x4 : Operand} {u4 : Value} {v : Value} (ho : o.op = .call { callee := .value (.func f), args := #[x0, x1, x2, x3, x4], argTypes := tys }) (e0 : a.eval x0 = u0) (e1 : a.eval x1 = u1) (e2 : a.eval x2 = u2) (e3 : a.eval x3 = u3) (e4 : a.eval x4 = u4) (hf : ∀ w, (callFunc f #[u0, u1, u2, u3, u4]).run Tryz.prog w = .ok (.enter f #[u0, u1, u2, u3, u4]) w)
    (hc : ∀ w, C w → Calls Tryz.prog f #[u0, u1, u2, u3, u4] w fun e w' => e = .returned v ∧ C w') (hK : K (a.put o.dst v)) : o.quiet Tryz.prog a C K := by
  refine q_enter (v := v) (f := f) (args := #[u0, u1, u2, u3, u4]) (fun w => ?_) hc hK
  obtain ⟨dst, op, ty, pos, after, guard⟩ := o
  subst ho
  have hf := hf w
  simp only [execOp, resolve, List.map_toArray, List.map_cons, List.map_nil, e0, e1, e2, e3, e4]
  go_simp
  try exact hf
end
/-- A contract that holds in every world that has grown out of W. -/
theorem grc {f : FuncId} {args : Array Value} {v v' : Value} {W : World} (h : ∀ w, Calls Tryz.prog f args w fun e w' => e = .returned v ∧ Gr w w') (hv : v = v') : ∀ w, Gr W w → Calls Tryz.prog f args w fun e w' => e = .returned v' ∧ Gr W w' := fun w hw => (h w).mono fun e w' k => ⟨hv ▸ k.1, hw.trans k.2⟩
end Go.Proofs.YtekenpgagfmgkaaGreat
end
