/- Towards the statements of package bound (layer 5): what two bounds have in common, and the lowest bits, of bounds without a number; as the program has them. -/
import Derived.Test.YtekenpgagfmgkabGreatBP
import Derived.Deep.DeepCutAuto
namespace Go.Proofs.YtekenpgagfmgkabGreat
open Go.ChangeShapes Go.WideShapes Go.ChangeAt Go.RowKit
open Tn (iv)
set_option linter.unusedVariables false
set_option maxRecDepth 20000

set_option maxHeartbeats 2000000 in
theorem meet_none (atv atm : BitVec 64) (aul auh asl ash awl awh avl avh : Int) (btv btm : BitVec 64) (bul buh bsl bsh bwl bwh bvl bvh : Int) (h : (nn aul auh asl ash awl awh avl avh || nn bul buh bsl bsh bwl bwh bvl bvh) = true) (w : World) : Calls Tryz.prog 11 #[.agg #[.int .u64 (iv atv), .int .u64 (iv atm), .int .u64 aul, .int .u64 auh, .int .i64 asl, .int .i64 ash, .int .u64 awl, .int .u64 awh, .int .i64 avl, .int .i64 avh], .agg #[.int .u64 (iv btv), .int .u64 (iv btm), .int .u64 bul, .int .u64 buh, .int .i64 bsl, .int .i64 bsh, .int .u64 bwl, .int .u64 bwh, .int .i64 bvl, .int .i64 bvh]] w fun e w' => e = .returned (.agg #[.int .u64 0, .int .u64 0, .int .u64 1, .int .u64 0, .int .i64 1, .int .i64 0, .int .u64 1, .int .u64 0, .int .i64 1, .int .i64 0]) ∧ Gr w w' := by
  have HA : Hid (AtA (((w.alloc (.cells #[.int .u64 (iv atv), .int .u64 (iv atm), .int .u64 aul, .int .u64 auh, .int .i64 asl, .int .i64 ash, .int .u64 awl, .int .u64 awh, .int .i64 avl, .int .i64 avh] 33)).alloc (.cells #[.int .u64 (iv btv), .int .u64 (iv btm), .int .u64 bul, .int .u64 buh, .int .i64 bsl, .int .i64 bsh, .int .u64 bwl, .int .u64 bwh, .int .i64 bvl, .int .i64 bvh] 33)).alloc (.cells #[.int .u64 0, .int .u64 0, .int .u64 0, .int .u64 0, .int .i64 0, .int .i64 0, .int .u64 0, .int .u64 0, .int .i64 0, .int .i64 0] 33)) w.heap.size #[.int .u64 (iv atv), .int .u64 (iv atm), .int .u64 aul, .int .u64 auh, .int .i64 asl, .int .i64 ash, .int .u64 awl, .int .u64 awh, .int .i64 avl, .int .i64 avh] 33) := ((AtA.newb _ (by simp) _ _).alloc _).alloc _
  have HB : Hid (AtA (((w.alloc (.cells #[.int .u64 (iv atv), .int .u64 (iv atm), .int .u64 aul, .int .u64 auh, .int .i64 asl, .int .i64 ash, .int .u64 awl, .int .u64 awh, .int .i64 avl, .int .i64 avh] 33)).alloc (.cells #[.int .u64 (iv btv), .int .u64 (iv btm), .int .u64 bul, .int .u64 buh, .int .i64 bsl, .int .i64 bsh, .int .u64 bwl, .int .u64 bwh, .int .i64 bvl, .int .i64 bvh] 33)).alloc (.cells #[.int .u64 0, .int .u64 0, .int .u64 0, .int .u64 0, .int .i64 0, .int .i64 0, .int .u64 0, .int .u64 0, .int .i64 0, .int .i64 0] 33)) (w.heap.size + 1) #[.int .u64 (iv btv), .int .u64 (iv btm), .int .u64 bul, .int .u64 buh, .int .i64 bsl, .int .i64 bsh, .int .u64 bwl, .int .u64 bwh, .int .i64 bvl, .int .i64 bvh] 33) := (AtA.newb _ (by simp) _ _).alloc _
  have HR : Hid (AtA (((w.alloc (.cells #[.int .u64 (iv atv), .int .u64 (iv atm), .int .u64 aul, .int .u64 auh, .int .i64 asl, .int .i64 ash, .int .u64 awl, .int .u64 awh, .int .i64 avl, .int .i64 avh] 33)).alloc (.cells #[.int .u64 (iv btv), .int .u64 (iv btm), .int .u64 bul, .int .u64 buh, .int .i64 bsl, .int .i64 bsh, .int .u64 bwl, .int .u64 bwh, .int .i64 bvl, .int .i64 bvh] 33)).alloc (.cells #[.int .u64 0, .int .u64 0, .int .u64 0, .int .u64 0, .int .i64 0, .int .i64 0, .int .u64 0, .int .u64 0, .int .i64 0, .int .i64 0] 33)) (w.heap.size + 1 + 1) #[.int .u64 0, .int .u64 0, .int .u64 0, .int .u64 0, .int .i64 0, .int .i64 0, .int .u64 0, .int .u64 0, .int .i64 0, .int .i64 0] 33) := AtA.newb _ (by simp) _ _
  have HF : Hid (Gr w (((w.alloc (.cells #[.int .u64 (iv atv), .int .u64 (iv atm), .int .u64 aul, .int .u64 auh, .int .i64 asl, .int .i64 ash, .int .u64 awl, .int .u64 awh, .int .i64 avl, .int .i64 avh] 33)).alloc (.cells #[.int .u64 (iv btv), .int .u64 (iv btm), .int .u64 bul, .int .u64 buh, .int .i64 bsl, .int .i64 bsh, .int .u64 bwl, .int .u64 bwh, .int .i64 bvl, .int .i64 bvh] 33)).alloc (.cells #[.int .u64 0, .int .u64 0, .int .u64 0, .int .u64 0, .int .i64 0, .int .i64 0, .int .u64 0, .int .u64 0, .int .i64 0, .int .i64 0] 33))) := (⟨by go_grown, by go_grown⟩ : Gr w _)
  have i0 := (HA.out.cell 0)
  have i1 := (HA.out.cell 1)
  have i2 := (HB.out.cell 0)
  have i3 := (HB.out.cell 1)
  simp only [List.getElem?_toArray, List.getElem?_cons_zero, List.getElem?_cons_succ] at i0 i1 i2 i3
  cases n1 : nn aul auh asl ash awl awh avl avh
  · have n2 : nn bul buh bsl bsh bwl bwh bvl bvh = true := by rw [n1] at h; exact h
    go_enter Tryz.func11, Tryz.ntmps11
    go_upto_region 3 with (first
      | (go_at_call 37; refine (cv (Tn.meet_any _ _ _ _ _)).mono ?_; rintro e w1 ⟨rfl, hg⟩; have ha1 : Hid (AtA (w1.alloc (.cells #[.int .u64 (iv (Tn.mtV atv atm btv btm)), .int .u64 (iv (Tn.mtM atv atm btv btm))] 27)) w.heap.size _ 33) := (HA.out.gr hg).alloc _; have hb1 : Hid (AtA (w1.alloc (.cells #[.int .u64 (iv (Tn.mtV atv atm btv btm)), .int .u64 (iv (Tn.mtM atv atm btv btm))] 27)) (w.heap.size + 1) _ 33) := (HB.out.gr hg).alloc _; have hr1 : Hid (AtA (w1.alloc (.cells #[.int .u64 (iv (Tn.mtV atv atm btv btm)), .int .u64 (iv (Tn.mtM atv atm btv btm))] 27)) (w.heap.size + 1 + 1) _ 33) := (HR.out.gr hg).alloc _; have hg1 : Hid (Gr w (w1.alloc (.cells #[.int .u64 (iv (Tn.mtV atv atm btv btm)), .int .u64 (iv (Tn.mtM atv atm btv btm))] 27))) := (HF.out.trans hg).alloc _ _; clear hg; have a0 := (ha1.out).cell 0; have a1 := (ha1.out).cell 1; have a2 := (ha1.out).cell 2; have a3 := (ha1.out).cell 3; have a4 := (ha1.out).cell 4; have a5 := (ha1.out).cell 5; have a6 := (ha1.out).cell 6; have a7 := (ha1.out).cell 7; have a8 := (ha1.out).cell 8; have a9 := (ha1.out).cell 9; have b0 := (hb1.out).cell 0; have b1 := (hb1.out).cell 1; have b2 := (hb1.out).cell 2; have b3 := (hb1.out).cell 3; have b4 := (hb1.out).cell 4; have b5 := (hb1.out).cell 5; have b6 := (hb1.out).cell 6; have b7 := (hb1.out).cell 7; have b8 := (hb1.out).cell 8; have b9 := (hb1.out).cell 9; simp only [List.getElem?_toArray, List.getElem?_cons_zero, List.getElem?_cons_succ] at a0 a1 a2 a3 a4 a5 a6 a7 a8 a9 b0 b1 b2 b3 b4 b5 b6 b7 b8 b9)
      | (go_at_call 26; refine (None_q _ _ _ _ _ _ _ _ _ _ _ (by with_reducible assumption) _).mono ?_; rintro e w2 ⟨rfl, hg⟩; have hb2 := hb1.out.gr hg; replace hb1 : Hid (AtA w2 (w.heap.size + 1) _ 33) := hb2; replace hr1 : Hid (AtA w2 (w.heap.size + 1 + 1) _ 33) := hr1.out.gr hg; replace hg1 : Hid (Gr w w2) := hg1.out.trans hg; clear hg hb2; have b0 := (hb1.out).cell 0; have b1 := (hb1.out).cell 1; have b2 := (hb1.out).cell 2; have b3 := (hb1.out).cell 3; have b4 := (hb1.out).cell 4; have b5 := (hb1.out).cell 5; have b6 := (hb1.out).cell 6; have b7 := (hb1.out).cell 7; have b8 := (hb1.out).cell 8; have b9 := (hb1.out).cell 9; simp only [List.getElem?_toArray, List.getElem?_cons_zero, List.getElem?_cons_succ] at b0 b1 b2 b3 b4 b5 b6 b7 b8 b9))
    go_wp2_with (first
      | (go_at_call 34; refine (nothing_gr _).mono ?_; rintro e w3 ⟨rfl, hg⟩; have hr : Hid (AtA w3 (w.heap.size + 1 + 1) _ 33) := hr1.out.gr hg; have hG : Hid (Gr w w3) := hg1.out.trans hg; clear hg
         have f0 := (hr.out).f 0
         have f1 := (hr.out).f 1
         have f2 := (hr.out).f 2
         have f3 := (hr.out).f 3
         have f4 := (hr.out).f 4
         have f5 := (hr.out).f 5
         have f6 := (hr.out).f 6
         have f7 := (hr.out).f 7
         have f8 := (hr.out).f 8
         have f9 := (hr.out).f 9
         have d0 := (hr.out).cell 0
         have d1 := (hr.out).cell 1
         have d2 := (hr.out).cell 2
         have d3 := (hr.out).cell 3
         have d4 := (hr.out).cell 4
         have d5 := (hr.out).cell 5
         have d6 := (hr.out).cell 6
         have d7 := (hr.out).cell 7
         have d8 := (hr.out).cell 8
         have d9 := (hr.out).cell 9
         simp only [List.getElem?_toArray, List.getElem?_cons_zero, List.getElem?_cons_succ] at d0 d1 d2 d3 d4 d5 d6 d7 d8 d9
         have hz := (((((((((((hr.out).st 0 (.int .u64 0)).st 1 (.int .u64 0)).st 2 (.int .u64 1)).st 3 (.int .u64 0)).st 4 (.int .i64 1)).st 5 (.int .i64 0)).st 6 (.int .u64 1)).st 7 (.int .u64 0)).st 8 (.int .i64 1)).st 9 (.int .i64 0))
         simp only [List.setIfInBounds_toArray, List.set_cons_zero, List.set_cons_succ] at hz
         have e0 := hz.cell 0
         have e1 := hz.cell 1
         have e2 := hz.cell 2
         have e3 := hz.cell 3
         have e4 := hz.cell 4
         have e5 := hz.cell 5
         have e6 := hz.cell 6
         have e7 := hz.cell 7
         have e8 := hz.cell 8
         have e9 := hz.cell 9
         simp only [List.getElem?_toArray, List.getElem?_cons_zero, List.getElem?_cons_succ] at e0 e1 e2 e3 e4 e5 e6 e7 e8 e9
         clear hz
))
    refine bodyPost_ret (by simp [results, Tryz.results11, go_sem, e0, e1, e2, e3, e4, e5, e6, e7, e8, e9]; try rfl) rfl ?_
    exact ⟨rfl, ((((((((((hG.out.set (by omega) _).set (by omega) _).set (by omega) _).set (by omega) _).set (by omega) _).set (by omega) _).set (by omega) _).set (by omega) _).set (by omega) _).set (by omega) _)⟩
  · go_enter Tryz.func11, Tryz.ntmps11
    go_upto_region 3 with (first
      | (go_at_call 37; refine (cv (Tn.meet_any _ _ _ _ _)).mono ?_; rintro e w1 ⟨rfl, hg⟩; have ha1 : Hid (AtA (w1.alloc (.cells #[.int .u64 (iv (Tn.mtV atv atm btv btm)), .int .u64 (iv (Tn.mtM atv atm btv btm))] 27)) w.heap.size _ 33) := (HA.out.gr hg).alloc _; have hb1 : Hid (AtA (w1.alloc (.cells #[.int .u64 (iv (Tn.mtV atv atm btv btm)), .int .u64 (iv (Tn.mtM atv atm btv btm))] 27)) (w.heap.size + 1) _ 33) := (HB.out.gr hg).alloc _; have hr1 : Hid (AtA (w1.alloc (.cells #[.int .u64 (iv (Tn.mtV atv atm btv btm)), .int .u64 (iv (Tn.mtM atv atm btv btm))] 27)) (w.heap.size + 1 + 1) _ 33) := (HR.out.gr hg).alloc _; have hg1 : Hid (Gr w (w1.alloc (.cells #[.int .u64 (iv (Tn.mtV atv atm btv btm)), .int .u64 (iv (Tn.mtM atv atm btv btm))] 27))) := (HF.out.trans hg).alloc _ _; clear hg; have a0 := (ha1.out).cell 0; have a1 := (ha1.out).cell 1; have a2 := (ha1.out).cell 2; have a3 := (ha1.out).cell 3; have a4 := (ha1.out).cell 4; have a5 := (ha1.out).cell 5; have a6 := (ha1.out).cell 6; have a7 := (ha1.out).cell 7; have a8 := (ha1.out).cell 8; have a9 := (ha1.out).cell 9; have b0 := (hb1.out).cell 0; have b1 := (hb1.out).cell 1; have b2 := (hb1.out).cell 2; have b3 := (hb1.out).cell 3; have b4 := (hb1.out).cell 4; have b5 := (hb1.out).cell 5; have b6 := (hb1.out).cell 6; have b7 := (hb1.out).cell 7; have b8 := (hb1.out).cell 8; have b9 := (hb1.out).cell 9; simp only [List.getElem?_toArray, List.getElem?_cons_zero, List.getElem?_cons_succ] at a0 a1 a2 a3 a4 a5 a6 a7 a8 a9 b0 b1 b2 b3 b4 b5 b6 b7 b8 b9)
      | (go_at_call 26; refine (None_q _ _ _ _ _ _ _ _ _ _ _ (by with_reducible assumption) _).mono ?_; rintro e w2 ⟨rfl, hg⟩; have hb2 := hb1.out.gr hg; replace hb1 : Hid (AtA w2 (w.heap.size + 1) _ 33) := hb2; replace hr1 : Hid (AtA w2 (w.heap.size + 1 + 1) _ 33) := hr1.out.gr hg; replace hg1 : Hid (Gr w w2) := hg1.out.trans hg; clear hg hb2; have b0 := (hb1.out).cell 0; have b1 := (hb1.out).cell 1; have b2 := (hb1.out).cell 2; have b3 := (hb1.out).cell 3; have b4 := (hb1.out).cell 4; have b5 := (hb1.out).cell 5; have b6 := (hb1.out).cell 6; have b7 := (hb1.out).cell 7; have b8 := (hb1.out).cell 8; have b9 := (hb1.out).cell 9; simp only [List.getElem?_toArray, List.getElem?_cons_zero, List.getElem?_cons_succ] at b0 b1 b2 b3 b4 b5 b6 b7 b8 b9))
    go_wp2_with (first
      | (go_at_call 34; refine (nothing_gr _).mono ?_; rintro e w3 ⟨rfl, hg⟩; have hr : Hid (AtA w3 (w.heap.size + 1 + 1) _ 33) := hr1.out.gr hg; have hG : Hid (Gr w w3) := hg1.out.trans hg; clear hg
         have f0 := (hr.out).f 0
         have f1 := (hr.out).f 1
         have f2 := (hr.out).f 2
         have f3 := (hr.out).f 3
         have f4 := (hr.out).f 4
         have f5 := (hr.out).f 5
         have f6 := (hr.out).f 6
         have f7 := (hr.out).f 7
         have f8 := (hr.out).f 8
         have f9 := (hr.out).f 9
         have d0 := (hr.out).cell 0
         have d1 := (hr.out).cell 1
         have d2 := (hr.out).cell 2
         have d3 := (hr.out).cell 3
         have d4 := (hr.out).cell 4
         have d5 := (hr.out).cell 5
         have d6 := (hr.out).cell 6
         have d7 := (hr.out).cell 7
         have d8 := (hr.out).cell 8
         have d9 := (hr.out).cell 9
         simp only [List.getElem?_toArray, List.getElem?_cons_zero, List.getElem?_cons_succ] at d0 d1 d2 d3 d4 d5 d6 d7 d8 d9
         have hz := (((((((((((hr.out).st 0 (.int .u64 0)).st 1 (.int .u64 0)).st 2 (.int .u64 1)).st 3 (.int .u64 0)).st 4 (.int .i64 1)).st 5 (.int .i64 0)).st 6 (.int .u64 1)).st 7 (.int .u64 0)).st 8 (.int .i64 1)).st 9 (.int .i64 0))
         simp only [List.setIfInBounds_toArray, List.set_cons_zero, List.set_cons_succ] at hz
         have e0 := hz.cell 0
         have e1 := hz.cell 1
         have e2 := hz.cell 2
         have e3 := hz.cell 3
         have e4 := hz.cell 4
         have e5 := hz.cell 5
         have e6 := hz.cell 6
         have e7 := hz.cell 7
         have e8 := hz.cell 8
         have e9 := hz.cell 9
         simp only [List.getElem?_toArray, List.getElem?_cons_zero, List.getElem?_cons_succ] at e0 e1 e2 e3 e4 e5 e6 e7 e8 e9
         clear hz
))
    refine bodyPost_ret (by simp [results, Tryz.results11, go_sem, e0, e1, e2, e3, e4, e5, e6, e7, e8, e9]; try rfl) rfl ?_
    exact ⟨rfl, ((((((((((hG.out.set (by omega) _).set (by omega) _).set (by omega) _).set (by omega) _).set (by omega) _).set (by omega) _).set (by omega) _).set (by omega) _).set (by omega) _).set (by omega) _)⟩
set_option maxHeartbeats 2000000 in
theorem low_same (tv tm : BitVec 64) (ul uh sl sh wl wh vl vh : Int) (n : Int) (h8 : (n != 8) = true) (h16 : (n != 16) = true) (h32 : (n != 32) = true) (w : World) : Calls Tryz.prog 169 #[.agg #[.int .u64 (iv tv), .int .u64 (iv tm), .int .u64 ul, .int .u64 uh, .int .i64 sl, .int .i64 sh, .int .u64 wl, .int .u64 wh, .int .i64 vl, .int .i64 vh], .int .u64 n] w fun e w' => e = .returned (.agg #[.int .u64 (iv tv), .int .u64 (iv tm), .int .u64 ul, .int .u64 uh, .int .i64 sl, .int .i64 sh, .int .u64 wl, .int .u64 wh, .int .i64 vl, .int .i64 vh]) ∧ Gr w w' := by
  have HA : Hid (AtA ((w.alloc (.cells #[.int .u64 (iv tv), .int .u64 (iv tm), .int .u64 ul, .int .u64 uh, .int .i64 sl, .int .i64 sh, .int .u64 wl, .int .u64 wh, .int .i64 vl, .int .i64 vh] 33)).alloc (.cells #[.int .u64 0, .int .u64 0, .int .u64 0, .int .u64 0, .int .i64 0, .int .i64 0, .int .u64 0, .int .u64 0, .int .i64 0, .int .i64 0] 33)) w.heap.size #[.int .u64 (iv tv), .int .u64 (iv tm), .int .u64 ul, .int .u64 uh, .int .i64 sl, .int .i64 sh, .int .u64 wl, .int .u64 wh, .int .i64 vl, .int .i64 vh] 33) := (AtA.newb _ (by simp) _ _).alloc _
  have HR : Hid (AtA ((w.alloc (.cells #[.int .u64 (iv tv), .int .u64 (iv tm), .int .u64 ul, .int .u64 uh, .int .i64 sl, .int .i64 sh, .int .u64 wl, .int .u64 wh, .int .i64 vl, .int .i64 vh] 33)).alloc (.cells #[.int .u64 0, .int .u64 0, .int .u64 0, .int .u64 0, .int .i64 0, .int .i64 0, .int .u64 0, .int .u64 0, .int .i64 0, .int .i64 0] 33)) (w.heap.size + 1) #[.int .u64 0, .int .u64 0, .int .u64 0, .int .u64 0, .int .i64 0, .int .i64 0, .int .u64 0, .int .u64 0, .int .i64 0, .int .i64 0] 33) := AtA.newb _ (by simp) _ _
  have HF : Hid (Gr w ((w.alloc (.cells #[.int .u64 (iv tv), .int .u64 (iv tm), .int .u64 ul, .int .u64 uh, .int .i64 sl, .int .i64 sh, .int .u64 wl, .int .u64 wh, .int .i64 vl, .int .i64 vh] 33)).alloc (.cells #[.int .u64 0, .int .u64 0, .int .u64 0, .int .u64 0, .int .i64 0, .int .i64 0, .int .u64 0, .int .u64 0, .int .i64 0, .int .i64 0] 33))) := (⟨by go_grown, by go_grown⟩ : Gr w _)
  have a0 := HA.out.cell 0
  have a1 := HA.out.cell 1
  have a2 := HA.out.cell 2
  have a3 := HA.out.cell 3
  have a4 := HA.out.cell 4
  have a5 := HA.out.cell 5
  have a6 := HA.out.cell 6
  have a7 := HA.out.cell 7
  have a8 := HA.out.cell 8
  have a9 := HA.out.cell 9
  simp only [List.getElem?_toArray, List.getElem?_cons_zero, List.getElem?_cons_succ] at a0 a1 a2 a3 a4 a5 a6 a7 a8 a9
  go_enter Tryz.func169, Tryz.ntmps169
  go_wp2_with fail
  go_returns
  exact ⟨rfl, by go_grown, by go_grown⟩
set_option maxHeartbeats 2000000 in
theorem low_none8 (tv tm : BitVec 64) (ul uh sl sh wl wh vl vh : Int) (h : nn ul uh sl sh wl wh vl vh = true) (w : World) : Calls Tryz.prog 169 #[.agg #[.int .u64 (iv tv), .int .u64 (iv tm), .int .u64 ul, .int .u64 uh, .int .i64 sl, .int .i64 sh, .int .u64 wl, .int .u64 wh, .int .i64 vl, .int .i64 vh], .int .u64 8] w fun e w' => e = .returned (.agg #[.int .u64 0, .int .u64 0, .int .u64 1, .int .u64 0, .int .i64 1, .int .i64 0, .int .u64 1, .int .u64 0, .int .i64 1, .int .i64 0]) ∧ Gr w w' := by
  have HA : Hid (AtA ((w.alloc (.cells #[.int .u64 (iv tv), .int .u64 (iv tm), .int .u64 ul, .int .u64 uh, .int .i64 sl, .int .i64 sh, .int .u64 wl, .int .u64 wh, .int .i64 vl, .int .i64 vh] 33)).alloc (.cells #[.int .u64 0, .int .u64 0, .int .u64 0, .int .u64 0, .int .i64 0, .int .i64 0, .int .u64 0, .int .u64 0, .int .i64 0, .int .i64 0] 33)) w.heap.size #[.int .u64 (iv tv), .int .u64 (iv tm), .int .u64 ul, .int .u64 uh, .int .i64 sl, .int .i64 sh, .int .u64 wl, .int .u64 wh, .int .i64 vl, .int .i64 vh] 33) := (AtA.newb _ (by simp) _ _).alloc _
  have HR : Hid (AtA ((w.alloc (.cells #[.int .u64 (iv tv), .int .u64 (iv tm), .int .u64 ul, .int .u64 uh, .int .i64 sl, .int .i64 sh, .int .u64 wl, .int .u64 wh, .int .i64 vl, .int .i64 vh] 33)).alloc (.cells #[.int .u64 0, .int .u64 0, .int .u64 0, .int .u64 0, .int .i64 0, .int .i64 0, .int .u64 0, .int .u64 0, .int .i64 0, .int .i64 0] 33)) (w.heap.size + 1) #[.int .u64 0, .int .u64 0, .int .u64 0, .int .u64 0, .int .i64 0, .int .i64 0, .int .u64 0, .int .u64 0, .int .i64 0, .int .i64 0] 33) := AtA.newb _ (by simp) _ _
  have HF : Hid (Gr w ((w.alloc (.cells #[.int .u64 (iv tv), .int .u64 (iv tm), .int .u64 ul, .int .u64 uh, .int .i64 sl, .int .i64 sh, .int .u64 wl, .int .u64 wh, .int .i64 vl, .int .i64 vh] 33)).alloc (.cells #[.int .u64 0, .int .u64 0, .int .u64 0, .int .u64 0, .int .i64 0, .int .i64 0, .int .u64 0, .int .u64 0, .int .i64 0, .int .i64 0] 33))) := (⟨by go_grown, by go_grown⟩ : Gr w _)
  have a0 := HA.out.cell 0
  have a1 := HA.out.cell 1
  have a2 := HA.out.cell 2
  have a3 := HA.out.cell 3
  have a4 := HA.out.cell 4
  have a5 := HA.out.cell 5
  have a6 := HA.out.cell 6
  have a7 := HA.out.cell 7
  have a8 := HA.out.cell 8
  have a9 := HA.out.cell 9
  simp only [List.getElem?_toArray, List.getElem?_cons_zero, List.getElem?_cons_succ] at a0 a1 a2 a3 a4 a5 a6 a7 a8 a9
  go_enter Tryz.func169, Tryz.ntmps169
  go_wp2_with (first
    | (go_at_call 26; refine (None_q _ _ _ _ _ _ _ _ _ _ _ (by with_reducible assumption) _).mono ?_; rintro e w1 ⟨rfl, hg⟩; have hr1 : Hid (AtA w1 (w.heap.size + 1) _ 33) := HR.out.gr hg; have hg1 : Hid (Gr w w1) := HF.out.trans hg; clear hg)
    | (go_at_call 34; refine (nothing_gr _).mono ?_; rintro e w2 ⟨rfl, hg⟩; have hr : Hid (AtA w2 (w.heap.size + 1) _ 33) := hr1.out.gr hg; have hG : Hid (Gr w w2) := hg1.out.trans hg; clear hg
       have f0 := (hr.out).f 0
       have f1 := (hr.out).f 1
       have f2 := (hr.out).f 2
       have f3 := (hr.out).f 3
       have f4 := (hr.out).f 4
       have f5 := (hr.out).f 5
       have f6 := (hr.out).f 6
       have f7 := (hr.out).f 7
       have f8 := (hr.out).f 8
       have f9 := (hr.out).f 9
       have d0 := (hr.out).cell 0
       have d1 := (hr.out).cell 1
       have d2 := (hr.out).cell 2
       have d3 := (hr.out).cell 3
       have d4 := (hr.out).cell 4
       have d5 := (hr.out).cell 5
       have d6 := (hr.out).cell 6
       have d7 := (hr.out).cell 7
       have d8 := (hr.out).cell 8
       have d9 := (hr.out).cell 9
       simp only [List.getElem?_toArray, List.getElem?_cons_zero, List.getElem?_cons_succ] at d0 d1 d2 d3 d4 d5 d6 d7 d8 d9
       have hz := (((((((((((hr.out).st 0 (.int .u64 0)).st 1 (.int .u64 0)).st 2 (.int .u64 1)).st 3 (.int .u64 0)).st 4 (.int .i64 1)).st 5 (.int .i64 0)).st 6 (.int .u64 1)).st 7 (.int .u64 0)).st 8 (.int .i64 1)).st 9 (.int .i64 0))
       simp only [List.setIfInBounds_toArray, List.set_cons_zero, List.set_cons_succ] at hz
       have e0 := hz.cell 0
       have e1 := hz.cell 1
       have e2 := hz.cell 2
       have e3 := hz.cell 3
       have e4 := hz.cell 4
       have e5 := hz.cell 5
       have e6 := hz.cell 6
       have e7 := hz.cell 7
       have e8 := hz.cell 8
       have e9 := hz.cell 9
       simp only [List.getElem?_toArray, List.getElem?_cons_zero, List.getElem?_cons_succ] at e0 e1 e2 e3 e4 e5 e6 e7 e8 e9
       clear hz
))
  refine bodyPost_ret (by simp [results, Tryz.results169, go_sem, e0, e1, e2, e3, e4, e5, e6, e7, e8, e9]; try rfl) rfl ?_
  exact ⟨rfl, ((((((((((hG.out.set (by omega) _).set (by omega) _).set (by omega) _).set (by omega) _).set (by omega) _).set (by omega) _).set (by omega) _).set (by omega) _).set (by omega) _).set (by omega) _)⟩
set_option maxHeartbeats 2000000 in
theorem low_none16 (tv tm : BitVec 64) (ul uh sl sh wl wh vl vh : Int) (h : nn ul uh sl sh wl wh vl vh = true) (w : World) : Calls Tryz.prog 169 #[.agg #[.int .u64 (iv tv), .int .u64 (iv tm), .int .u64 ul, .int .u64 uh, .int .i64 sl, .int .i64 sh, .int .u64 wl, .int .u64 wh, .int .i64 vl, .int .i64 vh], .int .u64 16] w fun e w' => e = .returned (.agg #[.int .u64 0, .int .u64 0, .int .u64 1, .int .u64 0, .int .i64 1, .int .i64 0, .int .u64 1, .int .u64 0, .int .i64 1, .int .i64 0]) ∧ Gr w w' := by
  have HA : Hid (AtA ((w.alloc (.cells #[.int .u64 (iv tv), .int .u64 (iv tm), .int .u64 ul, .int .u64 uh, .int .i64 sl, .int .i64 sh, .int .u64 wl, .int .u64 wh, .int .i64 vl, .int .i64 vh] 33)).alloc (.cells #[.int .u64 0, .int .u64 0, .int .u64 0, .int .u64 0, .int .i64 0, .int .i64 0, .int .u64 0, .int .u64 0, .int .i64 0, .int .i64 0] 33)) w.heap.size #[.int .u64 (iv tv), .int .u64 (iv tm), .int .u64 ul, .int .u64 uh, .int .i64 sl, .int .i64 sh, .int .u64 wl, .int .u64 wh, .int .i64 vl, .int .i64 vh] 33) := (AtA.newb _ (by simp) _ _).alloc _
  have HR : Hid (AtA ((w.alloc (.cells #[.int .u64 (iv tv), .int .u64 (iv tm), .int .u64 ul, .int .u64 uh, .int .i64 sl, .int .i64 sh, .int .u64 wl, .int .u64 wh, .int .i64 vl, .int .i64 vh] 33)).alloc (.cells #[.int .u64 0, .int .u64 0, .int .u64 0, .int .u64 0, .int .i64 0, .int .i64 0, .int .u64 0, .int .u64 0, .int .i64 0, .int .i64 0] 33)) (w.heap.size + 1) #[.int .u64 0, .int .u64 0, .int .u64 0, .int .u64 0, .int .i64 0, .int .i64 0, .int .u64 0, .int .u64 0, .int .i64 0, .int .i64 0] 33) := AtA.newb _ (by simp) _ _
  have HF : Hid (Gr w ((w.alloc (.cells #[.int .u64 (iv tv), .int .u64 (iv tm), .int .u64 ul, .int .u64 uh, .int .i64 sl, .int .i64 sh, .int .u64 wl, .int .u64 wh, .int .i64 vl, .int .i64 vh] 33)).alloc (.cells #[.int .u64 0, .int .u64 0, .int .u64 0, .int .u64 0, .int .i64 0, .int .i64 0, .int .u64 0, .int .u64 0, .int .i64 0, .int .i64 0] 33))) := (⟨by go_grown, by go_grown⟩ : Gr w _)
  have a0 := HA.out.cell 0
  have a1 := HA.out.cell 1
  have a2 := HA.out.cell 2
  have a3 := HA.out.cell 3
  have a4 := HA.out.cell 4
  have a5 := HA.out.cell 5
  have a6 := HA.out.cell 6
  have a7 := HA.out.cell 7
  have a8 := HA.out.cell 8
  have a9 := HA.out.cell 9
  simp only [List.getElem?_toArray, List.getElem?_cons_zero, List.getElem?_cons_succ] at a0 a1 a2 a3 a4 a5 a6 a7 a8 a9
  go_enter Tryz.func169, Tryz.ntmps169
  go_wp2_with (first
    | (go_at_call 26; refine (None_q _ _ _ _ _ _ _ _ _ _ _ (by with_reducible assumption) _).mono ?_; rintro e w1 ⟨rfl, hg⟩; have hr1 : Hid (AtA w1 (w.heap.size + 1) _ 33) := HR.out.gr hg; have hg1 : Hid (Gr w w1) := HF.out.trans hg; clear hg)
    | (go_at_call 34; refine (nothing_gr _).mono ?_; rintro e w2 ⟨rfl, hg⟩; have hr : Hid (AtA w2 (w.heap.size + 1) _ 33) := hr1.out.gr hg; have hG : Hid (Gr w w2) := hg1.out.trans hg; clear hg
       have f0 := (hr.out).f 0
       have f1 := (hr.out).f 1
       have f2 := (hr.out).f 2
       have f3 := (hr.out).f 3
       have f4 := (hr.out).f 4
       have f5 := (hr.out).f 5
       have f6 := (hr.out).f 6
       have f7 := (hr.out).f 7
       have f8 := (hr.out).f 8
       have f9 := (hr.out).f 9
       have d0 := (hr.out).cell 0
       have d1 := (hr.out).cell 1
       have d2 := (hr.out).cell 2
       have d3 := (hr.out).cell 3
       have d4 := (hr.out).cell 4
       have d5 := (hr.out).cell 5
       have d6 := (hr.out).cell 6
       have d7 := (hr.out).cell 7
       have d8 := (hr.out).cell 8
       have d9 := (hr.out).cell 9
       simp only [List.getElem?_toArray, List.getElem?_cons_zero, List.getElem?_cons_succ] at d0 d1 d2 d3 d4 d5 d6 d7 d8 d9
       have hz := (((((((((((hr.out).st 0 (.int .u64 0)).st 1 (.int .u64 0)).st 2 (.int .u64 1)).st 3 (.int .u64 0)).st 4 (.int .i64 1)).st 5 (.int .i64 0)).st 6 (.int .u64 1)).st 7 (.int .u64 0)).st 8 (.int .i64 1)).st 9 (.int .i64 0))
       simp only [List.setIfInBounds_toArray, List.set_cons_zero, List.set_cons_succ] at hz
       have e0 := hz.cell 0
       have e1 := hz.cell 1
       have e2 := hz.cell 2
       have e3 := hz.cell 3
       have e4 := hz.cell 4
       have e5 := hz.cell 5
       have e6 := hz.cell 6
       have e7 := hz.cell 7
       have e8 := hz.cell 8
       have e9 := hz.cell 9
       simp only [List.getElem?_toArray, List.getElem?_cons_zero, List.getElem?_cons_succ] at e0 e1 e2 e3 e4 e5 e6 e7 e8 e9
       clear hz
))
  refine bodyPost_ret (by simp [results, Tryz.results169, go_sem, e0, e1, e2, e3, e4, e5, e6, e7, e8, e9]; try rfl) rfl ?_
  exact ⟨rfl, ((((((((((hG.out.set (by omega) _).set (by omega) _).set (by omega) _).set (by omega) _).set (by omega) _).set (by omega) _).set (by omega) _).set (by omega) _).set (by omega) _).set (by omega) _)⟩
set_option maxHeartbeats 2000000 in
theorem low_none32 (tv tm : BitVec 64) (ul uh sl sh wl wh vl vh : Int) (h : nn ul uh sl sh wl wh vl vh = true) (w : World) : Calls Tryz.prog 169 #[.agg #[.int .u64 (iv tv), .int .u64 (iv tm), .int .u64 ul, .int .u64 uh, .int .i64 sl, .int .i64 sh, .int .u64 wl, .int .u64 wh, .int .i64 vl, .int .i64 vh], .int .u64 32] w fun e w' => e = .returned (.agg #[.int .u64 0, .int .u64 0, .int .u64 1, .int .u64 0, .int .i64 1, .int .i64 0, .int .u64 1, .int .u64 0, .int .i64 1, .int .i64 0]) ∧ Gr w w' := by
  have HA : Hid (AtA ((w.alloc (.cells #[.int .u64 (iv tv), .int .u64 (iv tm), .int .u64 ul, .int .u64 uh, .int .i64 sl, .int .i64 sh, .int .u64 wl, .int .u64 wh, .int .i64 vl, .int .i64 vh] 33)).alloc (.cells #[.int .u64 0, .int .u64 0, .int .u64 0, .int .u64 0, .int .i64 0, .int .i64 0, .int .u64 0, .int .u64 0, .int .i64 0, .int .i64 0] 33)) w.heap.size #[.int .u64 (iv tv), .int .u64 (iv tm), .int .u64 ul, .int .u64 uh, .int .i64 sl, .int .i64 sh, .int .u64 wl, .int .u64 wh, .int .i64 vl, .int .i64 vh] 33) := (AtA.newb _ (by simp) _ _).alloc _
  have HR : Hid (AtA ((w.alloc (.cells #[.int .u64 (iv tv), .int .u64 (iv tm), .int .u64 ul, .int .u64 uh, .int .i64 sl, .int .i64 sh, .int .u64 wl, .int .u64 wh, .int .i64 vl, .int .i64 vh] 33)).alloc (.cells #[.int .u64 0, .int .u64 0, .int .u64 0, .int .u64 0, .int .i64 0, .int .i64 0, .int .u64 0, .int .u64 0, .int .i64 0, .int .i64 0] 33)) (w.heap.size + 1) #[.int .u64 0, .int .u64 0, .int .u64 0, .int .u64 0, .int .i64 0, .int .i64 0, .int .u64 0, .int .u64 0, .int .i64 0, .int .i64 0] 33) := AtA.newb _ (by simp) _ _
  have HF : Hid (Gr w ((w.alloc (.cells #[.int .u64 (iv tv), .int .u64 (iv tm), .int .u64 ul, .int .u64 uh, .int .i64 sl, .int .i64 sh, .int .u64 wl, .int .u64 wh, .int .i64 vl, .int .i64 vh] 33)).alloc (.cells #[.int .u64 0, .int .u64 0, .int .u64 0, .int .u64 0, .int .i64 0, .int .i64 0, .int .u64 0, .int .u64 0, .int .i64 0, .int .i64 0] 33))) := (⟨by go_grown, by go_grown⟩ : Gr w _)
  have a0 := HA.out.cell 0
  have a1 := HA.out.cell 1
  have a2 := HA.out.cell 2
  have a3 := HA.out.cell 3
  have a4 := HA.out.cell 4
  have a5 := HA.out.cell 5
  have a6 := HA.out.cell 6
  have a7 := HA.out.cell 7
  have a8 := HA.out.cell 8
  have a9 := HA.out.cell 9
  simp only [List.getElem?_toArray, List.getElem?_cons_zero, List.getElem?_cons_succ] at a0 a1 a2 a3 a4 a5 a6 a7 a8 a9
  go_enter Tryz.func169, Tryz.ntmps169
  go_wp2_with (first
    | (go_at_call 26; refine (None_q _ _ _ _ _ _ _ _ _ _ _ (by with_reducible assumption) _).mono ?_; rintro e w1 ⟨rfl, hg⟩; have hr1 : Hid (AtA w1 (w.heap.size + 1) _ 33) := HR.out.gr hg; have hg1 : Hid (Gr w w1) := HF.out.trans hg; clear hg)
    | (go_at_call 34; refine (nothing_gr _).mono ?_; rintro e w2 ⟨rfl, hg⟩; have hr : Hid (AtA w2 (w.heap.size + 1) _ 33) := hr1.out.gr hg; have hG : Hid (Gr w w2) := hg1.out.trans hg; clear hg
       have f0 := (hr.out).f 0
       have f1 := (hr.out).f 1
       have f2 := (hr.out).f 2
       have f3 := (hr.out).f 3
       have f4 := (hr.out).f 4
       have f5 := (hr.out).f 5
       have f6 := (hr.out).f 6
       have f7 := (hr.out).f 7
       have f8 := (hr.out).f 8
       have f9 := (hr.out).f 9
       have d0 := (hr.out).cell 0
       have d1 := (hr.out).cell 1
       have d2 := (hr.out).cell 2
       have d3 := (hr.out).cell 3
       have d4 := (hr.out).cell 4
       have d5 := (hr.out).cell 5
       have d6 := (hr.out).cell 6
       have d7 := (hr.out).cell 7
       have d8 := (hr.out).cell 8
       have d9 := (hr.out).cell 9
       simp only [List.getElem?_toArray, List.getElem?_cons_zero, List.getElem?_cons_succ] at d0 d1 d2 d3 d4 d5 d6 d7 d8 d9
       have hz := (((((((((((hr.out).st 0 (.int .u64 0)).st 1 (.int .u64 0)).st 2 (.int .u64 1)).st 3 (.int .u64 0)).st 4 (.int .i64 1)).st 5 (.int .i64 0)).st 6 (.int .u64 1)).st 7 (.int .u64 0)).st 8 (.int .i64 1)).st 9 (.int .i64 0))
       simp only [List.setIfInBounds_toArray, List.set_cons_zero, List.set_cons_succ] at hz
       have e0 := hz.cell 0
       have e1 := hz.cell 1
       have e2 := hz.cell 2
       have e3 := hz.cell 3
       have e4 := hz.cell 4
       have e5 := hz.cell 5
       have e6 := hz.cell 6
       have e7 := hz.cell 7
       have e8 := hz.cell 8
       have e9 := hz.cell 9
       simp only [List.getElem?_toArray, List.getElem?_cons_zero, List.getElem?_cons_succ] at e0 e1 e2 e3 e4 e5 e6 e7 e8 e9
       clear hz
))
  refine bodyPost_ret (by simp [results, Tryz.results169, go_sem, e0, e1, e2, e3, e4, e5, e6, e7, e8, e9]; try rfl) rfl ?_
  exact ⟨rfl, ((((((((((hG.out.set (by omega) _).set (by omega) _).set (by omega) _).set (by omega) _).set (by omega) _).set (by omega) _).set (by omega) _).set (by omega) _).set (by omega) _).set (by omega) _)⟩
theorem low_nothing (n : Int) (w : World) : Calls Tryz.prog 169 #[.agg #[.int .u64 0, .int .u64 0, .int .u64 1, .int .u64 0, .int .i64 1, .int .i64 0, .int .u64 1, .int .u64 0, .int .i64 1, .int .i64 0], .int .u64 n] w fun e w' => e = .returned (.agg #[.int .u64 0, .int .u64 0, .int .u64 1, .int .u64 0, .int .i64 1, .int .i64 0, .int .u64 1, .int .u64 0, .int .i64 1, .int .i64 0]) ∧ Gr w w' := by
  by_cases h8 : n = 8
  · subst h8
    exact low_none8 0#64 0#64 1 0 1 0 1 0 1 0 rfl w
  by_cases h16 : n = 16
  · subst h16
    exact low_none16 0#64 0#64 1 0 1 0 1 0 1 0 rfl w
  by_cases h32 : n = 32
  · subst h32
    exact low_none32 0#64 0#64 1 0 1 0 1 0 1 0 rfl w
  exact low_same 0#64 0#64 1 0 1 0 1 0 1 0 n (by simpa using h8) (by simpa using h16) (by simpa using h32) w
theorem does_none_any (atv atm : BitVec 64) (aul auh asl ash awl awh avl avh : Int) (btv btm : BitVec 64) (bul buh bsl bsh bwl bwh bvl bvh : Int) (c : Int) (h0 : 0 ≤ c) (h1 : c ≤ 12) (wd : Bool) (h : (nn aul auh asl ash awl awh avl avh || nn bul buh bsl bsh bwl bwh bvl bvh) = true) (w : World) : Calls Tryz.prog 47 #[.int .u8 c, .bool wd, .agg #[.int .u64 (iv atv), .int .u64 (iv atm), .int .u64 aul, .int .u64 auh, .int .i64 asl, .int .i64 ash, .int .u64 awl, .int .u64 awh, .int .i64 avl, .int .i64 avh], .agg #[.int .u64 (iv btv), .int .u64 (iv btm), .int .u64 bul, .int .u64 buh, .int .i64 bsl, .int .i64 bsh, .int .u64 bwl, .int .u64 bwh, .int .i64 bvl, .int .i64 bvh]] w fun e w' => e = .returned (.tuple #[.agg #[.int .u64 0, .int .u64 0, .int .u64 1, .int .u64 0, .int .i64 1, .int .i64 0, .int .u64 1, .int .u64 0, .int .i64 1, .int .i64 0], .int .i64 0]) ∧ Gr w w' := by
  rcases (by omega : c = 0 ∨ c = 1 ∨ c = 2 ∨ c = 3 ∨ c = 4 ∨ c = 5 ∨ c = 6 ∨ c = 7 ∨ c = 8 ∨ c = 9 ∨ c = 10 ∨ c = 11 ∨ c = 12) with rfl | rfl | rfl | rfl | rfl | rfl | rfl | rfl | rfl | rfl | rfl | rfl | rfl
  · exact does_none0 atv atm aul auh asl ash awl awh avl avh btv btm bul buh bsl bsh bwl bwh bvl bvh wd h w
  · exact does_none1 atv atm aul auh asl ash awl awh avl avh btv btm bul buh bsl bsh bwl bwh bvl bvh wd h w
  · exact does_none2 atv atm aul auh asl ash awl awh avl avh btv btm bul buh bsl bsh bwl bwh bvl bvh wd h w
  · exact does_none3 atv atm aul auh asl ash awl awh avl avh btv btm bul buh bsl bsh bwl bwh bvl bvh wd h w
  · exact does_none4 atv atm aul auh asl ash awl awh avl avh btv btm bul buh bsl bsh bwl bwh bvl bvh wd h w
  · exact does_none5 atv atm aul auh asl ash awl awh avl avh btv btm bul buh bsl bsh bwl bwh bvl bvh wd h w
  · exact does_none6 atv atm aul auh asl ash awl awh avl avh btv btm bul buh bsl bsh bwl bwh bvl bvh wd h w
  · exact does_none7 atv atm aul auh asl ash awl awh avl avh btv btm bul buh bsl bsh bwl bwh bvl bvh wd h w
  · exact does_none8 atv atm aul auh asl ash awl awh avl avh btv btm bul buh bsl bsh bwl bwh bvl bvh wd h w
  · exact does_none9 atv atm aul auh asl ash awl awh avl avh btv btm bul buh bsl bsh bwl bwh bvl bvh wd h w
  · exact does_none10 atv atm aul auh asl ash awl awh avl avh btv btm bul buh bsl bsh bwl bwh bvl bvh wd h w
  · exact does_none11 atv atm aul auh asl ash awl awh avl avh btv btm bul buh bsl bsh bwl bwh bvl bvh wd h w
  · exact does_none12 atv atm aul auh asl ash awl awh avl avh btv btm bul buh bsl bsh bwl bwh bvl bvh wd h w
end Go.Proofs.YtekenpgagfmgkabGreat
