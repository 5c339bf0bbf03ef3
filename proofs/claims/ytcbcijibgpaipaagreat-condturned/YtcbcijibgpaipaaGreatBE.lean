/- Towards the statements of package bound (layer 5): the first ten steps of a round, as the program does them. -/
import Derived.Test.YtcbcijibgpaipaaGreatBD
import Derived.Test.YtcbcijibgpaipaaGreatBM
import Derived.Test.YtcbcijibgpaipaaGreatMG
namespace Go.Proofs.YtcbcijibgpaipaaGreat
open Go.ChangeShapes Go.WideShapes Go.ChangeAt Go.RowKit
open Tn (iv)
set_option linter.unusedVariables false
set_option maxRecDepth 20000

theorem sign_ok (al ah : Int) (h : al ≤ ah) (w : World) : Calls Tryz.prog 99 #[.agg #[.int .u64 al, .int .u64 ah]] w fun e w' => e = .returned (.agg #[.int .i64 (eN (decide (wrap64 ah < wrap64 al)) (-9223372036854775808) (wrap64 al)), .int .i64 (eN (decide (wrap64 ah < wrap64 al)) 9223372036854775807 (wrap64 ah))]) ∧ Gr w w' := by
  have k := sign_any al ah w
  rw [show decide (ah < al) = false by simp; omega] at k
  exact k
theorem bare_ok (al ah : Int) (h : al ≤ ah) (w : World) : Calls Tryz.prog 101 #[.agg #[.int .i64 al, .int .i64 ah]] w fun e w' => e = .returned (.agg #[.int .u64 (eN (decide (IntKind.u64.wrap ah < IntKind.u64.wrap al)) 0 (IntKind.u64.wrap al)), .int .u64 (eN (decide (IntKind.u64.wrap ah < IntKind.u64.wrap al)) 18446744073709551615 (IntKind.u64.wrap ah))]) ∧ Gr w w' := by
  have k := bare_any al ah w
  rw [show decide (ah < al) = false by simp; omega] at k
  exact k
theorem lowT_any (v m : BitVec 64) (w : World) : Calls Tryz.prog 79 #[.agg #[.int .u64 (iv v), .int .u64 (iv m)], .int .u64 32] w fun e w' => e = .returned (.agg #[.int .u64 (iv (lowT v)), .int .u64 (iv (lowT m))]) ∧ Gr w w' := cv (Tn.low_any v m 32 w)
theorem lower_bv (x : BitVec 64) : iv x % 4294967296 = iv (lowT x) := by
  unfold lowT Tn.iv
  rw [BitVec.toNat_and]
  have e2 : (1#64 <<< 32 - 1#64).toNat = 2 ^ 32 - 1 := by decide
  rw [e2, Nat.and_two_pow_sub_one_eq_mod]
  omega
set_option maxHeartbeats 2000000 in
theorem lowRange_any (al ah : Int) (h1 : InU al) (h2 : InU ah) (w : World) : Calls Tryz.prog 112 #[.agg #[.int .u64 al, .int .u64 ah]] w fun e w' => e = .returned (.agg #[.int .u64 (iv (lowT (Tn.rgV (bu al) (bu ah)))), .int .u64 (iv (Tn.rgM (bu al) (bu ah) ||| 18446744069414584320#64))]) ∧ Gr w w' := by
  obtain ⟨v, hv⟩ : ∃ v, Tn.rgV (bu al) (bu ah) = v := ⟨_, rfl⟩
  obtain ⟨m, hm⟩ : ∃ m, Tn.rgM (bu al) (bu ah) = m := ⟨_, rfl⟩
  have k := range_i al ah h1 h2
  rw [hv, hm] at *
  have e1 := lower_bv v
  have e2 : bits .or .u64 (iv m) 18446744069414584320 = iv (m ||| 18446744069414584320#64) := Tn.iv_or m 18446744069414584320#64
  clear hv hm
  have HX : Hid (AtA ((w.alloc (.cells #[.int .u64 al, .int .u64 ah] 26)).alloc (.cells #[.int .u64 0, .int .u64 0] 24)) (w.heap.size + 1) #[.int .u64 0, .int .u64 0] 24) := AtA.newb _ (by simp) _ _
  have HF : Hid (Gr w ((w.alloc (.cells #[.int .u64 al, .int .u64 ah] 26)).alloc (.cells #[.int .u64 0, .int .u64 0] 24))) := (⟨by go_grown, by go_grown⟩ : Gr w _)
  go_enter Tryz.func112, Tryz.ntmps112
  go_wp2_with (first
    | (go_at_call 104; refine (k _).mono ?_; rintro e w1 ⟨rfl, hg⟩; have hx : Hid (AtA w1 (w.heap.size + 1) _ 24) := (HX.out.gr hg); have hG : Hid (Gr w w1) := HF.out.trans hg; clear hg))
  have hx2 := hx.out.alloc (.cells #[.int .u64 (iv v), .int .u64 (iv m)] 24)
  have f0 := hx2.f 0
  have f1 := hx2.f 1
  have d0 := hx2.cell 0
  have d1 := hx2.cell 1
  have hx3 := (hx2.st 0 (.int .u64 (iv (lowT v)))).st 1 (.int .u64 (iv (m ||| 18446744069414584320#64)))
  have e5 := hx3.cell 0
  have e6 := hx3.cell 1
  simp only [List.getElem?_toArray, List.getElem?_cons_zero, List.getElem?_cons_succ] at d0 d1
  simp only [List.getElem?_toArray, List.getElem?_cons_zero, List.getElem?_cons_succ, zs, z0, z1] at e5 e6
  clear hx2 hx3
  go_region_with (first
    | (go_at_call 52; refine (lower_any _ (inU_iv _) _).mono ?_; rintro e w' ⟨rfl, hw⟩; rw [hw, lower_bv]; clear hw))
  all_goals go_wp2_with fail
  all_goals refine bodyPost_ret (by simp [results, Tryz.results112, go_sem, e5, e6]; try rfl) rfl ?_
  all_goals exact ⟨rfl, (((hG.out.alloc _ _).set (by omega) _).set (by omega) _).drew⟩
theorem drew_gr {w w' : World} (h : Gr w.drew w') : Gr w w' := (Gr.refl w).drew.trans h
set_option maxHeartbeats 2000000 in
theorem step1_any (p : Nat) (tv tm : BitVec 64) (ul uh sl sh wl wh vl vh : Int) (w : World) (hp : AtA w p #[.int .u64 (iv tv), .int .u64 (iv tm), .int .u64 ul, .int .u64 uh, .int .i64 sl, .int .i64 sh, .int .u64 wl, .int .u64 wh, .int .i64 vl, .int .i64 vh] 30) : Calls Tryz.prog 92 #[.pointer (some ⟨p, 0, none⟩)] w fun e w' => e = .returned (.bool (!(decide (min uh (iv (tv ||| tm)) < max ul (iv tv))))) ∧ AtA w' p #[.int .u64 (iv tv), .int .u64 (iv tm), .int .u64 (eN (decide (min uh (iv (tv ||| tm)) < max ul (iv tv))) 1 (max ul (iv tv))), .int .u64 (eN (decide (min uh (iv (tv ||| tm)) < max ul (iv tv))) 0 (min uh (iv (tv ||| tm)))), .int .i64 sl, .int .i64 sh, .int .u64 wl, .int .u64 wh, .int .i64 vl, .int .i64 vh] 30 ∧ GrX p w w' := by
  have c0 := hp.cell 0
  have c1 := hp.cell 1
  simp only [List.getElem?_toArray, List.getElem?_cons_zero, List.getElem?_cons_succ] at c0 c1
  have HQ : Hid (AtA w p _ 30) := hp
  have HG : Hid (GrX p w w) := GrX.refl p w
  clear hp
  go_enter Tryz.func92, Tryz.ntmps92
  go_wp2_with fail
  go_region_with (first
    | (go_at_call 94; refine (ends_any _ _ _).mono ?_; rintro e w1 ⟨rfl, hg⟩; replace HQ : Hid (AtA w1 p _ 30) := (by first | exact HQ.out.gr hg | exact HQ.out.drew.gr hg); replace HG : Hid (GrX p w w1) := HG.out.trans (by first | exact GrX.of hg | exact GrX.of (drew_gr hg)); clear hg)
    | (go_at_call 93; refine (meetU_any p tv tm ul uh sl sh wl wh vl vh _ _ _ HQ.out).mono ?_; rintro e w2 ⟨rfl, hA, hX⟩; have HR : Hid (AtA w2 p _ 30) := hA; have HS : Hid (GrX p w w2) := HG.out.trans hX; clear hA hX))
  all_goals go_wp2_with fail
  all_goals go_ret
  all_goals exact ⟨rfl, HR.out, HS.out⟩
set_option maxHeartbeats 2000000 in
theorem step2_any (p : Nat) (tv tm : BitVec 64) (ul uh sl sh wl wh vl vh : Int) (w : World) (hp : AtA w p #[.int .u64 (iv tv), .int .u64 (iv tm), .int .u64 ul, .int .u64 uh, .int .i64 sl, .int .i64 sh, .int .u64 wl, .int .u64 wh, .int .i64 vl, .int .i64 vh] 30) : Calls Tryz.prog 95 #[.pointer (some ⟨p, 0, none⟩)] w fun e w' => e = .returned (.bool (!(decide (min sh (wrap64 (iv (tv ||| tm &&& 9223372036854775807#64))) < max sl (wrap64 (iv (tv ||| tm &&& 9223372036854775808#64))))))) ∧ AtA w' p #[.int .u64 (iv tv), .int .u64 (iv tm), .int .u64 ul, .int .u64 uh, .int .i64 (eN (decide (min sh (wrap64 (iv (tv ||| tm &&& 9223372036854775807#64))) < max sl (wrap64 (iv (tv ||| tm &&& 9223372036854775808#64))))) 1 (max sl (wrap64 (iv (tv ||| tm &&& 9223372036854775808#64))))), .int .i64 (eN (decide (min sh (wrap64 (iv (tv ||| tm &&& 9223372036854775807#64))) < max sl (wrap64 (iv (tv ||| tm &&& 9223372036854775808#64))))) 0 (min sh (wrap64 (iv (tv ||| tm &&& 9223372036854775807#64))))), .int .u64 wl, .int .u64 wh, .int .i64 vl, .int .i64 vh] 30 ∧ GrX p w w' := by
  have c0 := hp.cell 0
  have c1 := hp.cell 1
  simp only [List.getElem?_toArray, List.getElem?_cons_zero, List.getElem?_cons_succ] at c0 c1
  have HQ : Hid (AtA w p _ 30) := hp
  have HG : Hid (GrX p w w) := GrX.refl p w
  clear hp
  go_enter Tryz.func95, Tryz.ntmps95
  go_wp2_with fail
  go_region_with (first
    | (go_at_call 97; refine (sends64 _ _ _).mono ?_; rintro e w1 ⟨rfl, hg⟩; replace HQ : Hid (AtA w1 p _ 30) := (by first | exact HQ.out.gr hg | exact HQ.out.drew.gr hg); replace HG : Hid (GrX p w w1) := HG.out.trans (by first | exact GrX.of hg | exact GrX.of (drew_gr hg)); clear hg)
    | (go_at_call 96; refine (cutS_any p tv tm ul uh sl sh wl wh vl vh _ _ _ HQ.out).mono ?_; rintro e w2 ⟨rfl, hA, hX⟩; have HR : Hid (AtA w2 p _ 30) := hA; have HS : Hid (GrX p w w2) := HG.out.trans hX; clear hA hX))
  all_goals go_wp2_with fail
  all_goals go_ret
  all_goals exact ⟨rfl, HR.out, HS.out⟩
set_option maxHeartbeats 2000000 in
theorem step3_any (p : Nat) (tv tm : BitVec 64) (ul uh sl sh wl wh vl vh : Int) (hu : ul ≤ uh) (w : World) (hp : AtA w p #[.int .u64 (iv tv), .int .u64 (iv tm), .int .u64 ul, .int .u64 uh, .int .i64 sl, .int .i64 sh, .int .u64 wl, .int .u64 wh, .int .i64 vl, .int .i64 vh] 30) : Calls Tryz.prog 98 #[.pointer (some ⟨p, 0, none⟩)] w fun e w' => e = .returned (.bool (!(decide (min sh (eN (decide (wrap64 uh < wrap64 ul)) 9223372036854775807 (wrap64 uh)) < max sl (eN (decide (wrap64 uh < wrap64 ul)) (-9223372036854775808) (wrap64 ul)))))) ∧ AtA w' p #[.int .u64 (iv tv), .int .u64 (iv tm), .int .u64 ul, .int .u64 uh, .int .i64 (eN (decide (min sh (eN (decide (wrap64 uh < wrap64 ul)) 9223372036854775807 (wrap64 uh)) < max sl (eN (decide (wrap64 uh < wrap64 ul)) (-9223372036854775808) (wrap64 ul)))) 1 (max sl (eN (decide (wrap64 uh < wrap64 ul)) (-9223372036854775808) (wrap64 ul)))), .int .i64 (eN (decide (min sh (eN (decide (wrap64 uh < wrap64 ul)) 9223372036854775807 (wrap64 uh)) < max sl (eN (decide (wrap64 uh < wrap64 ul)) (-9223372036854775808) (wrap64 ul)))) 0 (min sh (eN (decide (wrap64 uh < wrap64 ul)) 9223372036854775807 (wrap64 uh)))), .int .u64 wl, .int .u64 wh, .int .i64 vl, .int .i64 vh] 30 ∧ GrX p w w' := by
  have c2 := hp.cell 2
  have c3 := hp.cell 3
  simp only [List.getElem?_toArray, List.getElem?_cons_zero, List.getElem?_cons_succ] at c2 c3
  have HQ : Hid (AtA w p _ 30) := hp
  have HG : Hid (GrX p w w) := GrX.refl p w
  clear hp
  go_enter Tryz.func98, Tryz.ntmps98
  go_wp2_with fail
  go_region_with (first
    | (go_at_call 99; refine (sign_ok _ _ (by assumption) _).mono ?_; rintro e w1 ⟨rfl, hg⟩; replace HQ : Hid (AtA w1 p _ 30) := (by first | exact HQ.out.gr hg | exact HQ.out.drew.gr hg); replace HG : Hid (GrX p w w1) := HG.out.trans (by first | exact GrX.of hg | exact GrX.of (drew_gr hg)); clear hg)
    | (go_at_call 96; refine (cutS_any p tv tm ul uh sl sh wl wh vl vh _ _ _ HQ.out).mono ?_; rintro e w2 ⟨rfl, hA, hX⟩; have HR : Hid (AtA w2 p _ 30) := hA; have HS : Hid (GrX p w w2) := HG.out.trans hX; clear hA hX))
  all_goals go_wp2_with fail
  all_goals go_ret
  all_goals exact ⟨rfl, HR.out, HS.out⟩
set_option maxHeartbeats 2000000 in
theorem step4_any (p : Nat) (tv tm : BitVec 64) (ul uh sl sh wl wh vl vh : Int) (hs : sl ≤ sh) (w : World) (hp : AtA w p #[.int .u64 (iv tv), .int .u64 (iv tm), .int .u64 ul, .int .u64 uh, .int .i64 sl, .int .i64 sh, .int .u64 wl, .int .u64 wh, .int .i64 vl, .int .i64 vh] 30) : Calls Tryz.prog 100 #[.pointer (some ⟨p, 0, none⟩)] w fun e w' => e = .returned (.bool (!(decide (min uh (eN (decide (IntKind.u64.wrap sh < IntKind.u64.wrap sl)) 18446744073709551615 (IntKind.u64.wrap sh)) < max ul (eN (decide (IntKind.u64.wrap sh < IntKind.u64.wrap sl)) 0 (IntKind.u64.wrap sl)))))) ∧ AtA w' p #[.int .u64 (iv tv), .int .u64 (iv tm), .int .u64 (eN (decide (min uh (eN (decide (IntKind.u64.wrap sh < IntKind.u64.wrap sl)) 18446744073709551615 (IntKind.u64.wrap sh)) < max ul (eN (decide (IntKind.u64.wrap sh < IntKind.u64.wrap sl)) 0 (IntKind.u64.wrap sl)))) 1 (max ul (eN (decide (IntKind.u64.wrap sh < IntKind.u64.wrap sl)) 0 (IntKind.u64.wrap sl)))), .int .u64 (eN (decide (min uh (eN (decide (IntKind.u64.wrap sh < IntKind.u64.wrap sl)) 18446744073709551615 (IntKind.u64.wrap sh)) < max ul (eN (decide (IntKind.u64.wrap sh < IntKind.u64.wrap sl)) 0 (IntKind.u64.wrap sl)))) 0 (min uh (eN (decide (IntKind.u64.wrap sh < IntKind.u64.wrap sl)) 18446744073709551615 (IntKind.u64.wrap sh)))), .int .i64 sl, .int .i64 sh, .int .u64 wl, .int .u64 wh, .int .i64 vl, .int .i64 vh] 30 ∧ GrX p w w' := by
  have c4 := hp.cell 4
  have c5 := hp.cell 5
  simp only [List.getElem?_toArray, List.getElem?_cons_zero, List.getElem?_cons_succ] at c4 c5
  have HQ : Hid (AtA w p _ 30) := hp
  have HG : Hid (GrX p w w) := GrX.refl p w
  clear hp
  go_enter Tryz.func100, Tryz.ntmps100
  go_wp2_with fail
  go_region_with (first
    | (go_at_call 101; refine (bare_ok _ _ (by assumption) _).mono ?_; rintro e w1 ⟨rfl, hg⟩; replace HQ : Hid (AtA w1 p _ 30) := (by first | exact HQ.out.gr hg | exact HQ.out.drew.gr hg); replace HG : Hid (GrX p w w1) := HG.out.trans (by first | exact GrX.of hg | exact GrX.of (drew_gr hg)); clear hg)
    | (go_at_call 93; refine (meetU_any p tv tm ul uh sl sh wl wh vl vh _ _ _ HQ.out).mono ?_; rintro e w2 ⟨rfl, hA, hX⟩; have HR : Hid (AtA w2 p _ 30) := hA; have HS : Hid (GrX p w w2) := HG.out.trans hX; clear hA hX))
  all_goals go_wp2_with fail
  all_goals go_ret
  all_goals exact ⟨rfl, HR.out, HS.out⟩
set_option maxHeartbeats 2000000 in
theorem step5_any (p : Nat) (tv tm : BitVec 64) (ul uh sl sh wl wh vl vh : Int) (h1 : InU ul) (h2 : InU uh) (w : World) (hp : AtA w p #[.int .u64 (iv tv), .int .u64 (iv tm), .int .u64 ul, .int .u64 uh, .int .i64 sl, .int .i64 sh, .int .u64 wl, .int .u64 wh, .int .i64 vl, .int .i64 vh] 30) : Calls Tryz.prog 102 #[.pointer (some ⟨p, 0, none⟩)] w fun e w' => e = .returned (.bool (Tn.meetX tv tm (Tn.rgV (bu ul) (bu uh)) (Tn.rgM (bu ul) (bu uh)))) ∧ AtA w' p #[.int .u64 (iv (Tn.mtV tv tm (Tn.rgV (bu ul) (bu uh)) (Tn.rgM (bu ul) (bu uh)))), .int .u64 (iv (Tn.mtM tv tm (Tn.rgV (bu ul) (bu uh)) (Tn.rgM (bu ul) (bu uh)))), .int .u64 ul, .int .u64 uh, .int .i64 sl, .int .i64 sh, .int .u64 wl, .int .u64 wh, .int .i64 vl, .int .i64 vh] 30 ∧ GrX p w w' := by
  have c2 := hp.cell 2
  have c3 := hp.cell 3
  simp only [List.getElem?_toArray, List.getElem?_cons_zero, List.getElem?_cons_succ] at c2 c3
  have HQ : Hid (AtA w p _ 30) := hp
  have HG : Hid (GrX p w w) := GrX.refl p w
  clear hp
  go_enter Tryz.func102, Tryz.ntmps102
  go_wp2_with fail
  go_region_with (first
    | (go_at_call 104; refine (range_i _ _ (by assumption) (by assumption) _).mono ?_; rintro e w1 ⟨rfl, hg⟩; replace HQ : Hid (AtA w1 p _ 30) := (by first | exact HQ.out.gr hg | exact HQ.out.drew.gr hg); replace HG : Hid (GrX p w w1) := HG.out.trans (by first | exact GrX.of hg | exact GrX.of (drew_gr hg)); clear hg)
    | (go_at_call 103; refine (know_any p tv tm ul uh sl sh wl wh vl vh _ _ _ HQ.out).mono ?_; rintro e w2 ⟨rfl, hA, hX⟩; have HR : Hid (AtA w2 p _ 30) := hA; have HS : Hid (GrX p w w2) := HG.out.trans hX; clear hA hX))
  all_goals go_wp2_with fail
  all_goals go_ret
  all_goals exact ⟨rfl, HR.out, HS.out⟩
set_option maxHeartbeats 2000000 in
theorem step6_any (p : Nat) (tv tm : BitVec 64) (ul uh sl sh wl wh vl vh : Int) (w : World) (hp : AtA w p #[.int .u64 (iv tv), .int .u64 (iv tm), .int .u64 ul, .int .u64 uh, .int .i64 sl, .int .i64 sh, .int .u64 wl, .int .u64 wh, .int .i64 vl, .int .i64 vh] 30) : Calls Tryz.prog 105 #[.pointer (some ⟨p, 0, none⟩)] w fun e w' => e = .returned (.bool (!(decide (min wh (iv (lowT tv ||| lowT tm)) < max wl (iv (lowT tv)))))) ∧ AtA w' p #[.int .u64 (iv tv), .int .u64 (iv tm), .int .u64 ul, .int .u64 uh, .int .i64 sl, .int .i64 sh, .int .u64 (eN (decide (min wh (iv (lowT tv ||| lowT tm)) < max wl (iv (lowT tv)))) 1 (max wl (iv (lowT tv)))), .int .u64 (eN (decide (min wh (iv (lowT tv ||| lowT tm)) < max wl (iv (lowT tv)))) 0 (min wh (iv (lowT tv ||| lowT tm)))), .int .i64 vl, .int .i64 vh] 30 ∧ GrX p w w' := by
  have c0 := hp.cell 0
  have c1 := hp.cell 1
  simp only [List.getElem?_toArray, List.getElem?_cons_zero, List.getElem?_cons_succ] at c0 c1
  have HQ : Hid (AtA w p _ 30) := hp
  have HG : Hid (GrX p w w) := GrX.refl p w
  clear hp
  go_enter Tryz.func105, Tryz.ntmps105
  go_wp2_with fail
  go_region_with (first
    | (go_at_call 79; refine (lowT_any _ _ _).mono ?_; rintro e w1 ⟨rfl, hg⟩; replace HQ : Hid (AtA w1 p _ 30) := (by first | exact HQ.out.gr hg | exact HQ.out.drew.gr hg); replace HG : Hid (GrX p w w1) := HG.out.trans (by first | exact GrX.of hg | exact GrX.of (drew_gr hg)); clear hg)
    | (go_at_call 94; refine (ends_any _ _ _).mono ?_; rintro e w1 ⟨rfl, hg⟩; replace HQ : Hid (AtA w1 p _ 30) := (by first | exact HQ.out.gr hg | exact HQ.out.drew.gr hg); replace HG : Hid (GrX p w w1) := HG.out.trans (by first | exact GrX.of hg | exact GrX.of (drew_gr hg)); clear hg)
    | (go_at_call 93; refine (meetW_any p tv tm ul uh sl sh wl wh vl vh _ _ _ HQ.out).mono ?_; rintro e w2 ⟨rfl, hA, hX⟩; have HR : Hid (AtA w2 p _ 30) := hA; have HS : Hid (GrX p w w2) := HG.out.trans hX; clear hA hX))
  all_goals go_wp2_with fail
  all_goals go_ret
  all_goals exact ⟨rfl, HR.out, HS.out⟩
set_option maxHeartbeats 2000000 in
theorem step7_any (p : Nat) (tv tm : BitVec 64) (ul uh sl sh wl wh vl vh : Int) (w : World) (hp : AtA w p #[.int .u64 (iv tv), .int .u64 (iv tm), .int .u64 ul, .int .u64 uh, .int .i64 sl, .int .i64 sh, .int .u64 wl, .int .u64 wh, .int .i64 vl, .int .i64 vh] 30) : Calls Tryz.prog 106 #[.pointer (some ⟨p, 0, none⟩)] w fun e w' => e = .returned (.bool (!(decide (min vh (sg (iv (lowT tv ||| lowT tm &&& 18446744071562067967#64))) < max vl (sg (iv (lowT tv ||| lowT tm &&& 2147483648#64))))))) ∧ AtA w' p #[.int .u64 (iv tv), .int .u64 (iv tm), .int .u64 ul, .int .u64 uh, .int .i64 sl, .int .i64 sh, .int .u64 wl, .int .u64 wh, .int .i64 (eN (decide (min vh (sg (iv (lowT tv ||| lowT tm &&& 18446744071562067967#64))) < max vl (sg (iv (lowT tv ||| lowT tm &&& 2147483648#64))))) 1 (max vl (sg (iv (lowT tv ||| lowT tm &&& 2147483648#64))))), .int .i64 (eN (decide (min vh (sg (iv (lowT tv ||| lowT tm &&& 18446744071562067967#64))) < max vl (sg (iv (lowT tv ||| lowT tm &&& 2147483648#64))))) 0 (min vh (sg (iv (lowT tv ||| lowT tm &&& 18446744071562067967#64)))))] 30 ∧ GrX p w w' := by
  have c0 := hp.cell 0
  have c1 := hp.cell 1
  simp only [List.getElem?_toArray, List.getElem?_cons_zero, List.getElem?_cons_succ] at c0 c1
  have HQ : Hid (AtA w p _ 30) := hp
  have HG : Hid (GrX p w w) := GrX.refl p w
  clear hp
  go_enter Tryz.func106, Tryz.ntmps106
  go_wp2_with fail
  go_region_with (first
    | (go_at_call 79; refine (lowT_any _ _ _).mono ?_; rintro e w1 ⟨rfl, hg⟩; replace HQ : Hid (AtA w1 p _ 30) := (by first | exact HQ.out.gr hg | exact HQ.out.drew.gr hg); replace HG : Hid (GrX p w w1) := HG.out.trans (by first | exact GrX.of hg | exact GrX.of (drew_gr hg)); clear hg)
    | (go_at_call 97; refine (sends32 _ _ _).mono ?_; rintro e w1 ⟨rfl, hg⟩; replace HQ : Hid (AtA w1 p _ 30) := (by first | exact HQ.out.gr hg | exact HQ.out.drew.gr hg); replace HG : Hid (GrX p w w1) := HG.out.trans (by first | exact GrX.of hg | exact GrX.of (drew_gr hg)); clear hg)
    | (go_at_call 96; refine (cutV_any p tv tm ul uh sl sh wl wh vl vh _ _ _ HQ.out).mono ?_; rintro e w2 ⟨rfl, hA, hX⟩; have HR : Hid (AtA w2 p _ 30) := hA; have HS : Hid (GrX p w w2) := HG.out.trans hX; clear hA hX))
  all_goals go_wp2_with fail
  all_goals go_ret
  all_goals exact ⟨rfl, HR.out, HS.out⟩
set_option maxHeartbeats 2000000 in
theorem step8_any (p : Nat) (tv tm : BitVec 64) (ul uh sl sh wl wh vl vh : Int) (w : World) (hp : AtA w p #[.int .u64 (iv tv), .int .u64 (iv tm), .int .u64 ul, .int .u64 uh, .int .i64 sl, .int .i64 sh, .int .u64 wl, .int .u64 wh, .int .i64 vl, .int .i64 vh] 30) : Calls Tryz.prog 107 #[.pointer (some ⟨p, 0, none⟩)] w fun e w' => e = .returned (.bool (!(decide (min vh (eN (wl / 2147483648 != wh / 2147483648) 2147483647 (sg wh)) < max vl (eN (wl / 2147483648 != wh / 2147483648) (-2147483648) (sg wl)))))) ∧ AtA w' p #[.int .u64 (iv tv), .int .u64 (iv tm), .int .u64 ul, .int .u64 uh, .int .i64 sl, .int .i64 sh, .int .u64 wl, .int .u64 wh, .int .i64 (eN (decide (min vh (eN (wl / 2147483648 != wh / 2147483648) 2147483647 (sg wh)) < max vl (eN (wl / 2147483648 != wh / 2147483648) (-2147483648) (sg wl)))) 1 (max vl (eN (wl / 2147483648 != wh / 2147483648) (-2147483648) (sg wl)))), .int .i64 (eN (decide (min vh (eN (wl / 2147483648 != wh / 2147483648) 2147483647 (sg wh)) < max vl (eN (wl / 2147483648 != wh / 2147483648) (-2147483648) (sg wl)))) 0 (min vh (eN (wl / 2147483648 != wh / 2147483648) 2147483647 (sg wh))))] 30 ∧ GrX p w w' := by
  have c6 := hp.cell 6
  have c7 := hp.cell 7
  simp only [List.getElem?_toArray, List.getElem?_cons_zero, List.getElem?_cons_succ] at c6 c7
  have HQ : Hid (AtA w p _ 30) := hp
  have HG : Hid (GrX p w w) := GrX.refl p w
  clear hp
  go_enter Tryz.func107, Tryz.ntmps107
  go_wp2_with fail
  go_region_with (first
    | (go_at_call 108; refine (soh_any _ _ _).mono ?_; rintro e w1 ⟨rfl, hg⟩; replace HQ : Hid (AtA w1 p _ 30) := (by first | exact HQ.out.gr hg | exact HQ.out.drew.gr hg); replace HG : Hid (GrX p w w1) := HG.out.trans (by first | exact GrX.of hg | exact GrX.of (drew_gr hg)); clear hg)
    | (go_at_call 96; refine (cutV_any p tv tm ul uh sl sh wl wh vl vh _ _ _ HQ.out).mono ?_; rintro e w2 ⟨rfl, hA, hX⟩; have HR : Hid (AtA w2 p _ 30) := hA; have HS : Hid (GrX p w w2) := HG.out.trans hX; clear hA hX))
  all_goals go_wp2_with fail
  all_goals go_ret
  all_goals exact ⟨rfl, HR.out, HS.out⟩
set_option maxHeartbeats 2000000 in
theorem step9_any (p : Nat) (tv tm : BitVec 64) (ul uh sl sh wl wh vl vh : Int) (w : World) (hp : AtA w p #[.int .u64 (iv tv), .int .u64 (iv tm), .int .u64 ul, .int .u64 uh, .int .i64 sl, .int .i64 sh, .int .u64 wl, .int .u64 wh, .int .i64 vl, .int .i64 vh] 30) : Calls Tryz.prog 109 #[.pointer (some ⟨p, 0, none⟩)] w fun e w' => e = .returned (.bool (!(decide (min wh (eN (decide (vl < 0) != decide (vh < 0)) 4294967295 (vh % 4294967296)) < max wl (eN (decide (vl < 0) != decide (vh < 0)) 0 (vl % 4294967296)))))) ∧ AtA w' p #[.int .u64 (iv tv), .int .u64 (iv tm), .int .u64 ul, .int .u64 uh, .int .i64 sl, .int .i64 sh, .int .u64 (eN (decide (min wh (eN (decide (vl < 0) != decide (vh < 0)) 4294967295 (vh % 4294967296)) < max wl (eN (decide (vl < 0) != decide (vh < 0)) 0 (vl % 4294967296)))) 1 (max wl (eN (decide (vl < 0) != decide (vh < 0)) 0 (vl % 4294967296)))), .int .u64 (eN (decide (min wh (eN (decide (vl < 0) != decide (vh < 0)) 4294967295 (vh % 4294967296)) < max wl (eN (decide (vl < 0) != decide (vh < 0)) 0 (vl % 4294967296)))) 0 (min wh (eN (decide (vl < 0) != decide (vh < 0)) 4294967295 (vh % 4294967296)))), .int .i64 vl, .int .i64 vh] 30 ∧ GrX p w w' := by
  have c8 := hp.cell 8
  have c9 := hp.cell 9
  simp only [List.getElem?_toArray, List.getElem?_cons_zero, List.getElem?_cons_succ] at c8 c9
  have HQ : Hid (AtA w p _ 30) := hp
  have HG : Hid (GrX p w w) := GrX.refl p w
  clear hp
  go_enter Tryz.func109, Tryz.ntmps109
  go_wp2_with fail
  go_region_with (first
    | (go_at_call 110; refine (boh_any _ _ _).mono ?_; rintro e w1 ⟨rfl, hg⟩; replace HQ : Hid (AtA w1 p _ 30) := (by first | exact HQ.out.gr hg | exact HQ.out.drew.gr hg); replace HG : Hid (GrX p w w1) := HG.out.trans (by first | exact GrX.of hg | exact GrX.of (drew_gr hg)); clear hg)
    | (go_at_call 93; refine (meetW_any p tv tm ul uh sl sh wl wh vl vh _ _ _ HQ.out).mono ?_; rintro e w2 ⟨rfl, hA, hX⟩; have HR : Hid (AtA w2 p _ 30) := hA; have HS : Hid (GrX p w w2) := HG.out.trans hX; clear hA hX))
  all_goals go_wp2_with fail
  all_goals go_ret
  all_goals exact ⟨rfl, HR.out, HS.out⟩
set_option maxHeartbeats 2000000 in
theorem step10_any (p : Nat) (tv tm : BitVec 64) (ul uh sl sh wl wh vl vh : Int) (h1 : InU wl) (h2 : InU wh) (w : World) (hp : AtA w p #[.int .u64 (iv tv), .int .u64 (iv tm), .int .u64 ul, .int .u64 uh, .int .i64 sl, .int .i64 sh, .int .u64 wl, .int .u64 wh, .int .i64 vl, .int .i64 vh] 30) : Calls Tryz.prog 111 #[.pointer (some ⟨p, 0, none⟩)] w fun e w' => e = .returned (.bool (Tn.meetX tv tm (lowT (Tn.rgV (bu wl) (bu wh))) (Tn.rgM (bu wl) (bu wh) ||| 18446744069414584320#64))) ∧ AtA w' p #[.int .u64 (iv (Tn.mtV tv tm (lowT (Tn.rgV (bu wl) (bu wh))) (Tn.rgM (bu wl) (bu wh) ||| 18446744069414584320#64))), .int .u64 (iv (Tn.mtM tv tm (lowT (Tn.rgV (bu wl) (bu wh))) (Tn.rgM (bu wl) (bu wh) ||| 18446744069414584320#64))), .int .u64 ul, .int .u64 uh, .int .i64 sl, .int .i64 sh, .int .u64 wl, .int .u64 wh, .int .i64 vl, .int .i64 vh] 30 ∧ GrX p w w' := by
  have c6 := hp.cell 6
  have c7 := hp.cell 7
  simp only [List.getElem?_toArray, List.getElem?_cons_zero, List.getElem?_cons_succ] at c6 c7
  have HQ : Hid (AtA w p _ 30) := hp
  have HG : Hid (GrX p w w) := GrX.refl p w
  clear hp
  go_enter Tryz.func111, Tryz.ntmps111
  go_wp2_with fail
  go_region_with (first
    | (go_at_call 112; refine (lowRange_any _ _ (by assumption) (by assumption) _).mono ?_; rintro e w1 ⟨rfl, hg⟩; replace HQ : Hid (AtA w1 p _ 30) := (by first | exact HQ.out.gr hg | exact HQ.out.drew.gr hg); replace HG : Hid (GrX p w w1) := HG.out.trans (by first | exact GrX.of hg | exact GrX.of (drew_gr hg)); clear hg)
    | (go_at_call 103; refine (know_any p tv tm ul uh sl sh wl wh vl vh _ _ _ HQ.out).mono ?_; rintro e w2 ⟨rfl, hA, hX⟩; have HR : Hid (AtA w2 p _ 30) := hA; have HS : Hid (GrX p w w2) := HG.out.trans hX; clear hA hX))
  all_goals go_wp2_with fail
  all_goals go_ret
  all_goals exact ⟨rfl, HR.out, HS.out⟩
end Go.Proofs.YtcbcijibgpaipaaGreat
