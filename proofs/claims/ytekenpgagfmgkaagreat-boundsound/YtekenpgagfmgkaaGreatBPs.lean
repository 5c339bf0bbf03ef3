/- Towards the statements of package bound (layer 5): what codes do with bounds, as the program does it: codes that do nothing, and bounds without a number. -/
import Derived.Test.YtekenpgagfmgkaaGreatBO
import Derived.Test.YtekenpgagfmgkaaGreatBT
namespace Go.Proofs.YtekenpgagfmgkaaGreat
open Go.ChangeShapes Go.WideShapes Go.ChangeAt Go.RowKit
open Tn (iv)
set_option linter.unusedVariables false
set_option maxRecDepth 20000

set_option maxHeartbeats 2000000 in
theorem does_no (atv atm : BitVec 64) (aul auh asl ash awl awh avl avh : Int) (btv btm : BitVec 64) (bul buh bsl bsh bwl bwh bvl bvh : Int) (c : Int) (wd : Bool) (hc : c ≠ 0 ∧ c ≠ 1 ∧ c ≠ 2 ∧ c ≠ 3 ∧ c ≠ 9 ∧ c ≠ 4 ∧ c ≠ 5 ∧ c ≠ 10 ∧ c ≠ 6 ∧ c ≠ 7 ∧ c ≠ 12 ∧ c ≠ 8 ∧ c ≠ 11) (w : World) : Calls Tryz.prog 24 #[.int .u8 c, .bool wd, .agg #[.int .u64 (iv atv), .int .u64 (iv atm), .int .u64 aul, .int .u64 auh, .int .i64 asl, .int .i64 ash, .int .u64 awl, .int .u64 awh, .int .i64 avl, .int .i64 avh], .agg #[.int .u64 (iv btv), .int .u64 (iv btm), .int .u64 bul, .int .u64 buh, .int .i64 bsl, .int .i64 bsh, .int .u64 bwl, .int .u64 bwh, .int .i64 bvl, .int .i64 bvh]] w fun e w' => e = .returned (.tuple #[.agg #[.int .u64 0, .int .u64 0, .int .u64 0, .int .u64 0, .int .i64 0, .int .i64 0, .int .u64 0, .int .u64 0, .int .i64 0, .int .i64 0], .int .i64 20]) ∧ Gr w w' := by
  have HA : Hid (AtA (((w.alloc (.cells #[.int .u64 (iv atv), .int .u64 (iv atm), .int .u64 aul, .int .u64 auh, .int .i64 asl, .int .i64 ash, .int .u64 awl, .int .u64 awh, .int .i64 avl, .int .i64 avh] 30)).alloc (.cells #[.int .u64 (iv btv), .int .u64 (iv btm), .int .u64 bul, .int .u64 buh, .int .i64 bsl, .int .i64 bsh, .int .u64 bwl, .int .u64 bwh, .int .i64 bvl, .int .i64 bvh] 30)).alloc (.cells #[.int .u64 0, .int .u64 0, .int .u64 0, .int .u64 0, .int .i64 0, .int .i64 0, .int .u64 0, .int .u64 0, .int .i64 0, .int .i64 0] 30)) w.heap.size #[.int .u64 (iv atv), .int .u64 (iv atm), .int .u64 aul, .int .u64 auh, .int .i64 asl, .int .i64 ash, .int .u64 awl, .int .u64 awh, .int .i64 avl, .int .i64 avh] 30) := ((AtA.newb _ (by simp) _ _).alloc _).alloc _
  have HB : Hid (AtA (((w.alloc (.cells #[.int .u64 (iv atv), .int .u64 (iv atm), .int .u64 aul, .int .u64 auh, .int .i64 asl, .int .i64 ash, .int .u64 awl, .int .u64 awh, .int .i64 avl, .int .i64 avh] 30)).alloc (.cells #[.int .u64 (iv btv), .int .u64 (iv btm), .int .u64 bul, .int .u64 buh, .int .i64 bsl, .int .i64 bsh, .int .u64 bwl, .int .u64 bwh, .int .i64 bvl, .int .i64 bvh] 30)).alloc (.cells #[.int .u64 0, .int .u64 0, .int .u64 0, .int .u64 0, .int .i64 0, .int .i64 0, .int .u64 0, .int .u64 0, .int .i64 0, .int .i64 0] 30)) (w.heap.size + 1) #[.int .u64 (iv btv), .int .u64 (iv btm), .int .u64 bul, .int .u64 buh, .int .i64 bsl, .int .i64 bsh, .int .u64 bwl, .int .u64 bwh, .int .i64 bvl, .int .i64 bvh] 30) := (AtA.newb _ (by simp) _ _).alloc _
  have HR : Hid (AtA (((w.alloc (.cells #[.int .u64 (iv atv), .int .u64 (iv atm), .int .u64 aul, .int .u64 auh, .int .i64 asl, .int .i64 ash, .int .u64 awl, .int .u64 awh, .int .i64 avl, .int .i64 avh] 30)).alloc (.cells #[.int .u64 (iv btv), .int .u64 (iv btm), .int .u64 bul, .int .u64 buh, .int .i64 bsl, .int .i64 bsh, .int .u64 bwl, .int .u64 bwh, .int .i64 bvl, .int .i64 bvh] 30)).alloc (.cells #[.int .u64 0, .int .u64 0, .int .u64 0, .int .u64 0, .int .i64 0, .int .i64 0, .int .u64 0, .int .u64 0, .int .i64 0, .int .i64 0] 30)) (w.heap.size + 1 + 1) #[.int .u64 0, .int .u64 0, .int .u64 0, .int .u64 0, .int .i64 0, .int .i64 0, .int .u64 0, .int .u64 0, .int .i64 0, .int .i64 0] 30) := AtA.newb _ (by simp) _ _
  have HF : Hid (Gr w (((w.alloc (.cells #[.int .u64 (iv atv), .int .u64 (iv atm), .int .u64 aul, .int .u64 auh, .int .i64 asl, .int .i64 ash, .int .u64 awl, .int .u64 awh, .int .i64 avl, .int .i64 avh] 30)).alloc (.cells #[.int .u64 (iv btv), .int .u64 (iv btm), .int .u64 bul, .int .u64 buh, .int .i64 bsl, .int .i64 bsh, .int .u64 bwl, .int .u64 bwh, .int .i64 bvl, .int .i64 bvh] 30)).alloc (.cells #[.int .u64 0, .int .u64 0, .int .u64 0, .int .u64 0, .int .i64 0, .int .i64 0, .int .u64 0, .int .u64 0, .int .i64 0, .int .i64 0] 30))) := (⟨by go_grown, by go_grown⟩ : Gr w _)
  go_enter Tryz.func24, Tryz.ntmps24
  go_upto_region 2 with (first
    | (go_at_call 64; refine (deeds_gr _).mono ?_; rintro e w1 ⟨g, rfl, hb, hg⟩; have hl := look_no w1 g hb c hc; have ha1 : Hid (AtA w1 w.heap.size _ 30) := HA.out.gr hg; have hb1 : Hid (AtA w1 (w.heap.size + 1) _ 30) := HB.out.gr hg; have hr1 : Hid (AtA w1 (w.heap.size + 1 + 1) _ 30) := HR.out.gr hg; have hg1 : Hid (Gr w w1) := HF.out.trans hg; clear hg hb; have a0 := (ha1.out).cell 0; have a1 := (ha1.out).cell 1; have a2 := (ha1.out).cell 2; have a3 := (ha1.out).cell 3; have a4 := (ha1.out).cell 4; have a5 := (ha1.out).cell 5; have a6 := (ha1.out).cell 6; have a7 := (ha1.out).cell 7; have a8 := (ha1.out).cell 8; have a9 := (ha1.out).cell 9; have b0 := (hb1.out).cell 0; have b1 := (hb1.out).cell 1; have b2 := (hb1.out).cell 2; have b3 := (hb1.out).cell 3; have b4 := (hb1.out).cell 4; have b5 := (hb1.out).cell 5; have b6 := (hb1.out).cell 6; have b7 := (hb1.out).cell 7; have b8 := (hb1.out).cell 8; have b9 := (hb1.out).cell 9; simp only [List.getElem?_toArray, List.getElem?_cons_zero, List.getElem?_cons_succ] at a0 a1 a2 a3 a4 a5 a6 a7 a8 a9 b0 b1 b2 b3 b4 b5 b6 b7 b8 b9))
  have f0 := (hr1.out).f 0
  have f1 := (hr1.out).f 1
  have f2 := (hr1.out).f 2
  have f3 := (hr1.out).f 3
  have f4 := (hr1.out).f 4
  have f5 := (hr1.out).f 5
  have f6 := (hr1.out).f 6
  have f7 := (hr1.out).f 7
  have f8 := (hr1.out).f 8
  have f9 := (hr1.out).f 9
  have d0 := (hr1.out).cell 0
  have d1 := (hr1.out).cell 1
  have d2 := (hr1.out).cell 2
  have d3 := (hr1.out).cell 3
  have d4 := (hr1.out).cell 4
  have d5 := (hr1.out).cell 5
  have d6 := (hr1.out).cell 6
  have d7 := (hr1.out).cell 7
  have d8 := (hr1.out).cell 8
  have d9 := (hr1.out).cell 9
  simp only [List.getElem?_toArray, List.getElem?_cons_zero, List.getElem?_cons_succ] at d0 d1 d2 d3 d4 d5 d6 d7 d8 d9
  have hz := (((((((((((hr1.out).st 0 (.int .u64 0)).st 1 (.int .u64 0)).st 2 (.int .u64 0)).st 3 (.int .u64 0)).st 4 (.int .i64 0)).st 5 (.int .i64 0)).st 6 (.int .u64 0)).st 7 (.int .u64 0)).st 8 (.int .i64 0)).st 9 (.int .i64 0))
  simp only [List.setIfInBounds_toArray, List.set_cons_zero, List.set_cons_succ] at hz
  have e0 := hz.cell 0
  have e1 := hz.cell 1
  have e2 := hz.cell 2
  have e3 := hz.cell 3
  have e4 := hz.cell 4
  have e5 := hz.cell 5
  have e6 := hz.cell 6
  have e7 := hz.cell 7
  have e8 := hz.cell 8
  have e9 := hz.cell 9
  simp only [List.getElem?_toArray, List.getElem?_cons_zero, List.getElem?_cons_succ] at e0 e1 e2 e3 e4 e5 e6 e7 e8 e9
  clear hz
  go_wp2_with fail
  refine bodyPost_ret (by simp [results, Tryz.results24, go_sem, e0, e1, e2, e3, e4, e5, e6, e7, e8, e9]; try rfl) rfl ?_
  exact ⟨rfl, ((((((((((hg1.out.set (by omega) _).set (by omega) _).set (by omega) _).set (by omega) _).set (by omega) _).set (by omega) _).set (by omega) _).set (by omega) _).set (by omega) _).set (by omega) _)⟩
end Go.Proofs.YtekenpgagfmgkaaGreat
