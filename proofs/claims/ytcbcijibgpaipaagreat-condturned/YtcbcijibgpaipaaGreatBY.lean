/- Towards the statements of package bound (layer 5): what two bounds have in common, as the program has it. -/
import Derived.Test.YtcbcijibgpaipaaGreatBL
import Derived.Deep.DeepCutAuto
namespace Go.Proofs.YtcbcijibgpaipaaGreat
open Go.ChangeShapes Go.WideShapes Go.ChangeAt Go.RowKit
open Tn (iv)
set_option linter.unusedVariables false
set_option maxRecDepth 20000

set_option maxHeartbeats 8000000 in
theorem meet_go (atv atm : BitVec 64) (aul auh asl ash awl awh avl avh : Int) (btv btm : BitVec 64) (bul buh bsl bsh bwl bwh bvl bvh : Int) (r : Bd) (hr : syncM ⟨(Tn.mtV atv atm btv btm), (Tn.mtM atv atm btv btm), (eN (decide (min auh buh < max aul bul)) 1 (max aul bul)), (eN (decide (min auh buh < max aul bul)) 0 (min auh buh)), (eN (decide (min ash bsh < max asl bsl)) 1 (max asl bsl)), (eN (decide (min ash bsh < max asl bsl)) 0 (min ash bsh)), (eN (decide (min awh bwh < max awl bwl)) 1 (max awl bwl)), (eN (decide (min awh bwh < max awl bwl)) 0 (min awh bwh)), (eN (decide (min avh bvh < max avl bvl)) 1 (max avl bvl)), (eN (decide (min avh bvh < max avl bvl)) 0 (min avh bvh))⟩ = r) (hu1 : InU (eN (decide (min auh buh < max aul bul)) 1 (max aul bul))) (hu2 : InU (eN (decide (min auh buh < max aul bul)) 0 (min auh buh))) (hs1 : InS (eN (decide (min ash bsh < max asl bsl)) 1 (max asl bsl))) (hs2 : InS (eN (decide (min ash bsh < max asl bsl)) 0 (min ash bsh))) (n1 : nn aul auh asl ash awl awh avl avh = false) (n2 : nn bul buh bsl bsh bwl bwh bvl bvh = false) (hx : Tn.meetX atv atm btv btm = true) (w : World) : Calls Tryz.prog 21 #[.agg #[.int .u64 (iv atv), .int .u64 (iv atm), .int .u64 aul, .int .u64 auh, .int .i64 asl, .int .i64 ash, .int .u64 awl, .int .u64 awh, .int .i64 avl, .int .i64 avh], .agg #[.int .u64 (iv btv), .int .u64 (iv btm), .int .u64 bul, .int .u64 buh, .int .i64 bsl, .int .i64 bsh, .int .u64 bwl, .int .u64 bwh, .int .i64 bvl, .int .i64 bvh]] w fun e w' => e = .returned (.agg #[.int .u64 (iv r.tv), .int .u64 (iv r.tm), .int .u64 r.ul, .int .u64 r.uh, .int .i64 r.sl, .int .i64 r.sh, .int .u64 r.wl, .int .u64 r.wh, .int .i64 r.vl, .int .i64 r.vh]) ∧ Gr w w' := by
  have HH : Hid (syncM ⟨(Tn.mtV atv atm btv btm), (Tn.mtM atv atm btv btm), (eN (decide (min auh buh < max aul bul)) 1 (max aul bul)), (eN (decide (min auh buh < max aul bul)) 0 (min auh buh)), (eN (decide (min ash bsh < max asl bsl)) 1 (max asl bsl)), (eN (decide (min ash bsh < max asl bsl)) 0 (min ash bsh)), (eN (decide (min awh bwh < max awl bwl)) 1 (max awl bwl)), (eN (decide (min awh bwh < max awl bwl)) 0 (min awh bwh)), (eN (decide (min avh bvh < max avl bvl)) 1 (max avl bvl)), (eN (decide (min avh bvh < max avl bvl)) 0 (min avh bvh))⟩ = r) := hr
  clear hr
  have HA : Hid (AtA (((w.alloc (.cells #[.int .u64 (iv atv), .int .u64 (iv atm), .int .u64 aul, .int .u64 auh, .int .i64 asl, .int .i64 ash, .int .u64 awl, .int .u64 awh, .int .i64 avl, .int .i64 avh] 30)).alloc (.cells #[.int .u64 (iv btv), .int .u64 (iv btm), .int .u64 bul, .int .u64 buh, .int .i64 bsl, .int .i64 bsh, .int .u64 bwl, .int .u64 bwh, .int .i64 bvl, .int .i64 bvh] 30)).alloc (.cells #[.int .u64 0, .int .u64 0, .int .u64 0, .int .u64 0, .int .i64 0, .int .i64 0, .int .u64 0, .int .u64 0, .int .i64 0, .int .i64 0] 30)) w.heap.size #[.int .u64 (iv atv), .int .u64 (iv atm), .int .u64 aul, .int .u64 auh, .int .i64 asl, .int .i64 ash, .int .u64 awl, .int .u64 awh, .int .i64 avl, .int .i64 avh] 30) := ((AtA.newb _ (by simp) _ _).alloc _).alloc _
  have HB : Hid (AtA (((w.alloc (.cells #[.int .u64 (iv atv), .int .u64 (iv atm), .int .u64 aul, .int .u64 auh, .int .i64 asl, .int .i64 ash, .int .u64 awl, .int .u64 awh, .int .i64 avl, .int .i64 avh] 30)).alloc (.cells #[.int .u64 (iv btv), .int .u64 (iv btm), .int .u64 bul, .int .u64 buh, .int .i64 bsl, .int .i64 bsh, .int .u64 bwl, .int .u64 bwh, .int .i64 bvl, .int .i64 bvh] 30)).alloc (.cells #[.int .u64 0, .int .u64 0, .int .u64 0, .int .u64 0, .int .i64 0, .int .i64 0, .int .u64 0, .int .u64 0, .int .i64 0, .int .i64 0] 30)) (w.heap.size + 1) #[.int .u64 (iv btv), .int .u64 (iv btm), .int .u64 bul, .int .u64 buh, .int .i64 bsl, .int .i64 bsh, .int .u64 bwl, .int .u64 bwh, .int .i64 bvl, .int .i64 bvh] 30) := (AtA.newb _ (by simp) _ _).alloc _
  have HR : Hid (AtA (((w.alloc (.cells #[.int .u64 (iv atv), .int .u64 (iv atm), .int .u64 aul, .int .u64 auh, .int .i64 asl, .int .i64 ash, .int .u64 awl, .int .u64 awh, .int .i64 avl, .int .i64 avh] 30)).alloc (.cells #[.int .u64 (iv btv), .int .u64 (iv btm), .int .u64 bul, .int .u64 buh, .int .i64 bsl, .int .i64 bsh, .int .u64 bwl, .int .u64 bwh, .int .i64 bvl, .int .i64 bvh] 30)).alloc (.cells #[.int .u64 0, .int .u64 0, .int .u64 0, .int .u64 0, .int .i64 0, .int .i64 0, .int .u64 0, .int .u64 0, .int .i64 0, .int .i64 0] 30)) (w.heap.size + 1 + 1) #[.int .u64 0, .int .u64 0, .int .u64 0, .int .u64 0, .int .i64 0, .int .i64 0, .int .u64 0, .int .u64 0, .int .i64 0, .int .i64 0] 30) := AtA.newb _ (by simp) _ _
  have HF : Hid (Gr w (((w.alloc (.cells #[.int .u64 (iv atv), .int .u64 (iv atm), .int .u64 aul, .int .u64 auh, .int .i64 asl, .int .i64 ash, .int .u64 awl, .int .u64 awh, .int .i64 avl, .int .i64 avh] 30)).alloc (.cells #[.int .u64 (iv btv), .int .u64 (iv btm), .int .u64 bul, .int .u64 buh, .int .i64 bsl, .int .i64 bsh, .int .u64 bwl, .int .u64 bwh, .int .i64 bvl, .int .i64 bvh] 30)).alloc (.cells #[.int .u64 0, .int .u64 0, .int .u64 0, .int .u64 0, .int .i64 0, .int .i64 0, .int .u64 0, .int .u64 0, .int .i64 0, .int .i64 0] 30))) := (⟨by go_grown, by go_grown⟩ : Gr w _)
  have i0 := (HA.out.cell 0)
  have i1 := (HA.out.cell 1)
  have i2 := (HB.out.cell 0)
  have i3 := (HB.out.cell 1)
  simp only [List.getElem?_toArray, List.getElem?_cons_zero, List.getElem?_cons_succ] at i0 i1 i2 i3
  go_enter Tryz.func21, Tryz.ntmps21
  go_upto_region 4 with (first
    | (go_at_call 66; refine (cv (Tn.meet_any _ _ _ _ _)).mono ?_; rintro e w1 ⟨rfl, hg⟩; have hsz : w.heap.size + 3 ≤ w1.heap.size := (by have := hg.below.size; simp at this; omega); have ha1 : Hid (AtA (w1.alloc (.cells #[.int .u64 (iv (Tn.mtV atv atm btv btm)), .int .u64 (iv (Tn.mtM atv atm btv btm))] 24)) w.heap.size _ 30) := (HA.out.gr hg).alloc _; have hb1 : Hid (AtA (w1.alloc (.cells #[.int .u64 (iv (Tn.mtV atv atm btv btm)), .int .u64 (iv (Tn.mtM atv atm btv btm))] 24)) (w.heap.size + 1) _ 30) := (HB.out.gr hg).alloc _; have hr1 : Hid (AtA (w1.alloc (.cells #[.int .u64 (iv (Tn.mtV atv atm btv btm)), .int .u64 (iv (Tn.mtM atv atm btv btm))] 24)) (w.heap.size + 1 + 1) _ 30) := (HR.out.gr hg).alloc _; have ht1 : Hid (AtA (w1.alloc (.cells #[.int .u64 (iv (Tn.mtV atv atm btv btm)), .int .u64 (iv (Tn.mtM atv atm btv btm))] 24)) w1.heap.size _ 24) := AtA.newb _ rfl _ _; have hg1 : Hid (Gr w (w1.alloc (.cells #[.int .u64 (iv (Tn.mtV atv atm btv btm)), .int .u64 (iv (Tn.mtM atv atm btv btm))] 24))) := (HF.out.trans hg).alloc _ _; clear hg; have a0 := (ha1.out).cell 0; have a1 := (ha1.out).cell 1; have a2 := (ha1.out).cell 2; have a3 := (ha1.out).cell 3; have a4 := (ha1.out).cell 4; have a5 := (ha1.out).cell 5; have a6 := (ha1.out).cell 6; have a7 := (ha1.out).cell 7; have a8 := (ha1.out).cell 8; have a9 := (ha1.out).cell 9; have b0 := (hb1.out).cell 0; have b1 := (hb1.out).cell 1; have b2 := (hb1.out).cell 2; have b3 := (hb1.out).cell 3; have b4 := (hb1.out).cell 4; have b5 := (hb1.out).cell 5; have b6 := (hb1.out).cell 6; have b7 := (hb1.out).cell 7; have b8 := (hb1.out).cell 8; have b9 := (hb1.out).cell 9; have t0 := (ht1.out).cell 0; have t1 := (ht1.out).cell 1; simp only [List.getElem?_toArray, List.getElem?_cons_zero, List.getElem?_cons_succ] at a0 a1 a2 a3 a4 a5 a6 a7 a8 a9 b0 b1 b2 b3 b4 b5 b6 b7 b8 b9 t0 t1)
    | (go_at_call 15; refine (None_q _ _ _ _ _ _ _ _ _ _ _ (by with_reducible assumption) _).mono ?_; rintro e w2 ⟨rfl, hg⟩; have ha2 := ha1.out.gr hg; have hb2 := hb1.out.gr hg; have hr2 := hr1.out.gr hg; have ht2 := ht1.out.gr hg; have hg2 := hg1.out.trans hg; clear ha1 hb1 hr1 ht1 hg1 hg; clear a0 a1 a2 a3 a4 a5 a6 a7 a8 a9 b0 b1 b2 b3 b4 b5 b6 b7 b8 b9 t0 t1; have ha1 : Hid (AtA w2 w.heap.size _ 30) := ha2; have hb1 : Hid (AtA w2 (w.heap.size + 1) _ 30) := hb2; have hr1 : Hid (AtA w2 (w.heap.size + 1 + 1) _ 30) := hr2; have ht1 : Hid (AtA w2 w1.heap.size _ 24) := ht2; have hg1 : Hid (Gr w w2) := hg2; clear ha2 hb2 hr2 ht2 hg2; have a0 := (ha1.out).cell 0; have a1 := (ha1.out).cell 1; have a2 := (ha1.out).cell 2; have a3 := (ha1.out).cell 3; have a4 := (ha1.out).cell 4; have a5 := (ha1.out).cell 5; have a6 := (ha1.out).cell 6; have a7 := (ha1.out).cell 7; have a8 := (ha1.out).cell 8; have a9 := (ha1.out).cell 9; have b0 := (hb1.out).cell 0; have b1 := (hb1.out).cell 1; have b2 := (hb1.out).cell 2; have b3 := (hb1.out).cell 3; have b4 := (hb1.out).cell 4; have b5 := (hb1.out).cell 5; have b6 := (hb1.out).cell 6; have b7 := (hb1.out).cell 7; have b8 := (hb1.out).cell 8; have b9 := (hb1.out).cell 9; have t0 := (ht1.out).cell 0; have t1 := (ht1.out).cell 1; simp only [List.getElem?_toArray, List.getElem?_cons_zero, List.getElem?_cons_succ] at a0 a1 a2 a3 a4 a5 a6 a7 a8 a9 b0 b1 b2 b3 b4 b5 b6 b7 b8 b9 t0 t1))
  go_region_held3 (fun w' => w'.cell? ⟨w.heap.size, 2, none⟩ = some (.int .u64 aul) ∧ w'.cell? ⟨w.heap.size, 3, none⟩ = some (.int .u64 auh) ∧ w'.cell? ⟨w.heap.size, 4, none⟩ = some (.int .i64 asl) ∧ w'.cell? ⟨w.heap.size, 5, none⟩ = some (.int .i64 ash) ∧ w'.cell? ⟨w.heap.size, 6, none⟩ = some (.int .u64 awl) ∧ w'.cell? ⟨w.heap.size, 7, none⟩ = some (.int .u64 awh) ∧ w'.cell? ⟨w.heap.size, 8, none⟩ = some (.int .i64 avl) ∧ w'.cell? ⟨w.heap.size, 9, none⟩ = some (.int .i64 avh) ∧ w'.cell? ⟨w.heap.size + 1, 2, none⟩ = some (.int .u64 bul) ∧ w'.cell? ⟨w.heap.size + 1, 3, none⟩ = some (.int .u64 buh) ∧ w'.cell? ⟨w.heap.size + 1, 4, none⟩ = some (.int .i64 bsl) ∧ w'.cell? ⟨w.heap.size + 1, 5, none⟩ = some (.int .i64 bsh) ∧ w'.cell? ⟨w.heap.size + 1, 6, none⟩ = some (.int .u64 bwl) ∧ w'.cell? ⟨w.heap.size + 1, 7, none⟩ = some (.int .u64 bwh) ∧ w'.cell? ⟨w.heap.size + 1, 8, none⟩ = some (.int .i64 bvl) ∧ w'.cell? ⟨w.heap.size + 1, 9, none⟩ = some (.int .i64 bvh) ∧ w'.cell? ⟨w1.heap.size, 0, none⟩ = some (.int .u64 (iv (Tn.mtV atv atm btv btm))) ∧ w'.cell? ⟨w1.heap.size, 1, none⟩ = some (.int .u64 (iv (Tn.mtM atv atm btv btm)))) ((refine ⟨?_, ?_, ?_, ?_, ?_, ?_, ?_, ?_, ?_, ?_, ?_, ?_, ?_, ?_, ?_, ?_, ?_, ?_⟩ <;> repeat (with_reducible (first | assumption | apply cell_al | apply cell_dr | (refine cell_gr (by assumption) ?_) | (refine cst (by simp <;> omega) ?_)))))
    (first
    | (go_at_call 67; refine (meet_u _ _ _ _ _).mono ?_; rintro e w3 ⟨rfl, hg⟩; replace hr1 : Hid (AtA w3 (w.heap.size + 1 + 1) _ 30) := (by first | exact hr1.out.gr hg | exact hr1.out.drew.gr hg); replace hg1 : Hid (Gr w w3) := hg1.out.trans (by first | exact hg | exact drew_gr hg))
    | (go_at_call 68; refine (meet_s _ _ _ _ _).mono ?_; rintro e w3 ⟨rfl, hg⟩; replace hr1 : Hid (AtA w3 (w.heap.size + 1 + 1) _ 30) := (by first | exact hr1.out.gr hg | exact hr1.out.drew.gr hg); replace hg1 : Hid (Gr w w3) := hg1.out.trans (by first | exact hg | exact drew_gr hg))
    | (go_at_call 11; refine (sync_q _ _ _ _ _ _ _ _ _ _ r HH.out hu1 hu2 hs1 hs2 _).mono ?_; rintro e w3 ⟨rfl, hg⟩; replace hr1 : Hid (AtA w3 (w.heap.size + 1 + 1) _ 30) := (by first | exact hr1.out.gr hg | exact hr1.out.drew.gr hg); replace hg1 : Hid (Gr w w3) := hg1.out.trans (by first | exact hg | exact drew_gr hg)
       have f0 := (hr1.out).f 0
       have f1 := (hr1.out).f 1
       have f2 := (hr1.out).f 2
       have f3 := (hr1.out).f 3
       have f4 := (hr1.out).f 4
       have f5 := (hr1.out).f 5
       have f6 := (hr1.out).f 6
       have f7 := (hr1.out).f 7
       have f8 := (hr1.out).f 8
       have f9 := (hr1.out).f 9
       have d0 := (hr1.out).cell 0
       have d1 := (hr1.out).cell 1
       have d2 := (hr1.out).cell 2
       have d3 := (hr1.out).cell 3
       have d4 := (hr1.out).cell 4
       have d5 := (hr1.out).cell 5
       have d6 := (hr1.out).cell 6
       have d7 := (hr1.out).cell 7
       have d8 := (hr1.out).cell 8
       have d9 := (hr1.out).cell 9
       simp only [List.getElem?_toArray, List.getElem?_cons_zero, List.getElem?_cons_succ] at d0 d1 d2 d3 d4 d5 d6 d7 d8 d9
       have hz := (((((((((((hr1.out).st 0 (.int .u64 (iv r.tv))).st 1 (.int .u64 (iv r.tm))).st 2 (.int .u64 r.ul)).st 3 (.int .u64 r.uh)).st 4 (.int .i64 r.sl)).st 5 (.int .i64 r.sh)).st 6 (.int .u64 r.wl)).st 7 (.int .u64 r.wh)).st 8 (.int .i64 r.vl)).st 9 (.int .i64 r.vh))
       simp only [zs, z0, z1] at hz
       have e0 := hz.cell 0
       have e1 := hz.cell 1
       have e2 := hz.cell 2
       have e3 := hz.cell 3
       have e4 := hz.cell 4
       have e5 := hz.cell 5
       have e6 := hz.cell 6
       have e7 := hz.cell 7
       have e8 := hz.cell 8
       have e9 := hz.cell 9
       simp only [List.getElem?_toArray, List.getElem?_cons_zero, List.getElem?_cons_succ] at e0 e1 e2 e3 e4 e5 e6 e7 e8 e9
       clear hz
))
  all_goals go_wp2_with fail
  all_goals refine bodyPost_ret (by simp [results, Tryz.results21, go_sem, e0, e1, e2, e3, e4, e5, e6, e7, e8, e9]; try rfl) rfl ?_
  all_goals exact ⟨rfl, ((((((((((hg1.out.set (by omega) _).set (by omega) _).set (by omega) _).set (by omega) _).set (by omega) _).set (by omega) _).set (by omega) _).set (by omega) _).set (by omega) _).set (by omega) _)⟩
end Go.Proofs.YtcbcijibgpaipaaGreat
