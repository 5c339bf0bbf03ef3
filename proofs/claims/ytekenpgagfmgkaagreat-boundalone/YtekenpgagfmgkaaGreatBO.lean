/- Towards the statements of package bound (layer 5): bits taken together, of bounds, as the program does it. -/
import Derived.Test.YtekenpgagfmgkaaGreatBL
import Derived.Deep.DeepCutAuto
namespace Go.Proofs.YtekenpgagfmgkaaGreat
open Go.ChangeShapes Go.WideShapes Go.ChangeAt Go.RowKit
open Tn (iv)
set_option linter.unusedVariables false
set_option maxRecDepth 20000

theorem inU_min {a b : Int} (h : InU a) (k : InU b) : InU (min a b) := by unfold InU at *; omega
theorem inU_max {a b : Int} (h : InU a) (k : InU b) : InU (max a b) := by unfold InU at *; omega
theorem inU_z : InU 0 := by unfold InU; omega
theorem inU_f : InU 18446744073709551615 := by unfold InU; omega
theorem inS_z : InS (-9223372036854775808) := by unfold InS; omega
theorem inS_f : InS 9223372036854775807 := by unfold InS; omega
set_option maxHeartbeats 4000000 in
theorem anded_0 (atv atm : BitVec 64) (aul auh asl ash awl awh avl avh : Int) (btv btm : BitVec 64) (bul buh bsl bsh bwl bwh bvl bvh : Int) (r : Bd) (hr : syncM ⟨(atv &&& btv), (Tn.andM atv atm btv btm), 0, auh, (-9223372036854775808), 9223372036854775807, 0, awh, (-2147483648), 2147483647⟩ = r) (h1 : auh ≤ buh) (h2 : awh ≤ bwh) (hauh : InU auh) (hbuh : InU buh) (w : World) : Calls Tryz.prog 130 #[.agg #[.int .u64 (iv atv), .int .u64 (iv atm), .int .u64 aul, .int .u64 auh, .int .i64 asl, .int .i64 ash, .int .u64 awl, .int .u64 awh, .int .i64 avl, .int .i64 avh], .agg #[.int .u64 (iv btv), .int .u64 (iv btm), .int .u64 bul, .int .u64 buh, .int .i64 bsl, .int .i64 bsh, .int .u64 bwl, .int .u64 bwh, .int .i64 bvl, .int .i64 bvh]] w fun e w' => e = .returned (.agg #[.int .u64 (iv r.tv), .int .u64 (iv r.tm), .int .u64 r.ul, .int .u64 r.uh, .int .i64 r.sl, .int .i64 r.sh, .int .u64 r.wl, .int .u64 r.wh, .int .i64 r.vl, .int .i64 r.vh]) ∧ Gr w w' := by
  have HR : Hid (syncM ⟨(atv &&& btv), (Tn.andM atv atm btv btm), 0, auh, (-9223372036854775808), 9223372036854775807, 0, awh, (-2147483648), 2147483647⟩ = r) := hr
  clear hr
  go_enter Tryz.func130, Tryz.ntmps130
  go_upto_region 1 with fail
  have HA1 : Hid (AtA (((w.alloc (.cells #[.int .u64 (iv atv), .int .u64 (iv atm), .int .u64 aul, .int .u64 auh, .int .i64 asl, .int .i64 ash, .int .u64 awl, .int .u64 awh, .int .i64 avl, .int .i64 avh] 30)).alloc (.cells #[.int .u64 (iv btv), .int .u64 (iv btm), .int .u64 bul, .int .u64 buh, .int .i64 bsl, .int .i64 bsh, .int .u64 bwl, .int .u64 bwh, .int .i64 bvl, .int .i64 bvh] 30)).alloc (.cells #[.int .u64 0, .int .u64 0, .int .u64 0, .int .u64 0, .int .i64 0, .int .i64 0, .int .u64 0, .int .u64 0, .int .i64 0, .int .i64 0] 30)) w.heap.size #[(.int .u64 (iv atv)), (.int .u64 (iv atm)), (.int .u64 aul), (.int .u64 auh), (.int .i64 asl), (.int .i64 ash), (.int .u64 awl), (.int .u64 awh), (.int .i64 avl), (.int .i64 avh)] 30) := (((AtA.newb _ (by simp) _ _).alloc _).alloc _)
  have HB1 : Hid (AtA (((w.alloc (.cells #[.int .u64 (iv atv), .int .u64 (iv atm), .int .u64 aul, .int .u64 auh, .int .i64 asl, .int .i64 ash, .int .u64 awl, .int .u64 awh, .int .i64 avl, .int .i64 avh] 30)).alloc (.cells #[.int .u64 (iv btv), .int .u64 (iv btm), .int .u64 bul, .int .u64 buh, .int .i64 bsl, .int .i64 bsh, .int .u64 bwl, .int .u64 bwh, .int .i64 bvl, .int .i64 bvh] 30)).alloc (.cells #[.int .u64 0, .int .u64 0, .int .u64 0, .int .u64 0, .int .i64 0, .int .i64 0, .int .u64 0, .int .u64 0, .int .i64 0, .int .i64 0] 30)) (w.heap.size + 1) #[(.int .u64 (iv btv)), (.int .u64 (iv btm)), (.int .u64 bul), (.int .u64 buh), (.int .i64 bsl), (.int .i64 bsh), (.int .u64 bwl), (.int .u64 bwh), (.int .i64 bvl), (.int .i64 bvh)] 30) := ((AtA.newb _ (by simp) _ _).alloc _)
  have HR1 : Hid (AtA (((w.alloc (.cells #[.int .u64 (iv atv), .int .u64 (iv atm), .int .u64 aul, .int .u64 auh, .int .i64 asl, .int .i64 ash, .int .u64 awl, .int .u64 awh, .int .i64 avl, .int .i64 avh] 30)).alloc (.cells #[.int .u64 (iv btv), .int .u64 (iv btm), .int .u64 bul, .int .u64 buh, .int .i64 bsl, .int .i64 bsh, .int .u64 bwl, .int .u64 bwh, .int .i64 bvl, .int .i64 bvh] 30)).alloc (.cells #[.int .u64 0, .int .u64 0, .int .u64 0, .int .u64 0, .int .i64 0, .int .i64 0, .int .u64 0, .int .u64 0, .int .i64 0, .int .i64 0] 30)) (w.heap.size + 1 + 1) #[(.int .u64 0), (.int .u64 0), (.int .u64 0), (.int .u64 0), (.int .i64 0), (.int .i64 0), (.int .u64 0), (.int .u64 0), (.int .i64 0), (.int .i64 0)] 30) := (AtA.newb _ (by simp) _ _)
  have HG1 : Hid (Gr w (((w.alloc (.cells #[.int .u64 (iv atv), .int .u64 (iv atm), .int .u64 aul, .int .u64 auh, .int .i64 asl, .int .i64 ash, .int .u64 awl, .int .u64 awh, .int .i64 avl, .int .i64 avh] 30)).alloc (.cells #[.int .u64 (iv btv), .int .u64 (iv btm), .int .u64 bul, .int .u64 buh, .int .i64 bsl, .int .i64 bsh, .int .u64 bwl, .int .u64 bwh, .int .i64 bvl, .int .i64 bvh] 30)).alloc (.cells #[.int .u64 0, .int .u64 0, .int .u64 0, .int .u64 0, .int .i64 0, .int .i64 0, .int .u64 0, .int .u64 0, .int .i64 0, .int .i64 0] 30))) := (⟨by go_grown, by go_grown⟩ : Gr w _)
  go_upto_region 2 with (first | (go_at_call 51; refine (any_any _).mono ?_; rintro e w1 ⟨rfl, hg1⟩))
  have hsz : w.heap.size + 3 ≤ w1.heap.size := by
    have := hg1.below.size
    simp at this
    omega
  have HA2 : Hid (AtA (w1.alloc (.cells #[(.int .u64 (iv 0#64)), (.int .u64 (iv 18446744073709551615#64)), (.int .u64 0), (.int .u64 18446744073709551615), (.int .i64 (-9223372036854775808)), (.int .i64 9223372036854775807), (.int .u64 0), (.int .u64 4294967295), (.int .i64 (-2147483648)), (.int .i64 2147483647)] 30)) w.heap.size #[(.int .u64 (iv atv)), (.int .u64 (iv atm)), (.int .u64 aul), (.int .u64 auh), (.int .i64 asl), (.int .i64 ash), (.int .u64 awl), (.int .u64 awh), (.int .i64 avl), (.int .i64 avh)] 30) := (HA1.out.gr hg1).alloc _
  have HB2 : Hid (AtA (w1.alloc (.cells #[(.int .u64 (iv 0#64)), (.int .u64 (iv 18446744073709551615#64)), (.int .u64 0), (.int .u64 18446744073709551615), (.int .i64 (-9223372036854775808)), (.int .i64 9223372036854775807), (.int .u64 0), (.int .u64 4294967295), (.int .i64 (-2147483648)), (.int .i64 2147483647)] 30)) (w.heap.size + 1) #[(.int .u64 (iv btv)), (.int .u64 (iv btm)), (.int .u64 bul), (.int .u64 buh), (.int .i64 bsl), (.int .i64 bsh), (.int .u64 bwl), (.int .u64 bwh), (.int .i64 bvl), (.int .i64 bvh)] 30) := (HB1.out.gr hg1).alloc _
  have HR2 : Hid (AtA (w1.alloc (.cells #[(.int .u64 (iv 0#64)), (.int .u64 (iv 18446744073709551615#64)), (.int .u64 0), (.int .u64 18446744073709551615), (.int .i64 (-9223372036854775808)), (.int .i64 9223372036854775807), (.int .u64 0), (.int .u64 4294967295), (.int .i64 (-2147483648)), (.int .i64 2147483647)] 30)) (w.heap.size + 1 + 1) #[(.int .u64 0), (.int .u64 0), (.int .u64 0), (.int .u64 0), (.int .i64 0), (.int .i64 0), (.int .u64 0), (.int .u64 0), (.int .i64 0), (.int .i64 0)] 30) := (HR1.out.gr hg1).alloc _
  have HX2 : Hid (AtA (w1.alloc (.cells #[(.int .u64 (iv 0#64)), (.int .u64 (iv 18446744073709551615#64)), (.int .u64 0), (.int .u64 18446744073709551615), (.int .i64 (-9223372036854775808)), (.int .i64 9223372036854775807), (.int .u64 0), (.int .u64 4294967295), (.int .i64 (-2147483648)), (.int .i64 2147483647)] 30)) w1.heap.size #[(.int .u64 (iv 0#64)), (.int .u64 (iv 18446744073709551615#64)), (.int .u64 0), (.int .u64 18446744073709551615), (.int .i64 (-9223372036854775808)), (.int .i64 9223372036854775807), (.int .u64 0), (.int .u64 4294967295), (.int .i64 (-2147483648)), (.int .i64 2147483647)] 30) := AtA.newb _ rfl _ _
  have HG2 : Hid (Gr w (w1.alloc (.cells #[(.int .u64 (iv 0#64)), (.int .u64 (iv 18446744073709551615#64)), (.int .u64 0), (.int .u64 18446744073709551615), (.int .i64 (-9223372036854775808)), (.int .i64 9223372036854775807), (.int .u64 0), (.int .u64 4294967295), (.int .i64 (-2147483648)), (.int .i64 2147483647)] 30))) := (HG1.out.trans hg1).alloc _ _
  clear HA1 HB1 HR1 HG1
  clear hg1
  have k1 := HA2.out.cell 0
  have k2 := HA2.out.cell 1
  have k3 := HB2.out.cell 0
  have k4 := HB2.out.cell 1
  simp only [List.getElem?_toArray, List.getElem?_cons_zero, List.getElem?_cons_succ] at k1 k2 k3 k4
  go_upto_region 3 with (first | (go_at_call 193; refine (cv (Tn.and_any _ _ _ _ _)).mono ?_; rintro e w2 ⟨rfl, hg2⟩ ; have hx2 : Hid (AtA w2 w1.heap.size #[(.int .u64 (iv 0#64)), (.int .u64 (iv 18446744073709551615#64)), (.int .u64 0), (.int .u64 18446744073709551615), (.int .i64 (-9223372036854775808)), (.int .i64 9223372036854775807), (.int .u64 0), (.int .u64 4294967295), (.int .i64 (-2147483648)), (.int .i64 2147483647)] 30) := (HX2.out.gr hg2); have k5 := hx2.out.f 0; have k6 := hx2.out.cell 0; have k7 := hx2.out.f 1; have k8 := hx2.out.cell 1; simp only [List.getElem?_toArray, List.getElem?_cons_zero, List.getElem?_cons_succ] at k6 k8))
  clear k1 k2 k3 k4 k5 k6 k7 k8
  have HA3 : Hid (AtA w2 w.heap.size #[(.int .u64 (iv atv)), (.int .u64 (iv atm)), (.int .u64 aul), (.int .u64 auh), (.int .i64 asl), (.int .i64 ash), (.int .u64 awl), (.int .u64 awh), (.int .i64 avl), (.int .i64 avh)] 30) := (HA2.out.gr hg2)
  have HB3 : Hid (AtA w2 (w.heap.size + 1) #[(.int .u64 (iv btv)), (.int .u64 (iv btm)), (.int .u64 bul), (.int .u64 buh), (.int .i64 bsl), (.int .i64 bsh), (.int .u64 bwl), (.int .u64 bwh), (.int .i64 bvl), (.int .i64 bvh)] 30) := (HB2.out.gr hg2)
  have HR3 : Hid (AtA w2 (w.heap.size + 1 + 1) #[(.int .u64 0), (.int .u64 0), (.int .u64 0), (.int .u64 0), (.int .i64 0), (.int .i64 0), (.int .u64 0), (.int .u64 0), (.int .i64 0), (.int .i64 0)] 30) := (HR2.out.gr hg2)
  have HX3 : Hid (AtA w2 w1.heap.size #[(.int .u64 (iv 0#64)), (.int .u64 (iv 18446744073709551615#64)), (.int .u64 0), (.int .u64 18446744073709551615), (.int .i64 (-9223372036854775808)), (.int .i64 9223372036854775807), (.int .u64 0), (.int .u64 4294967295), (.int .i64 (-2147483648)), (.int .i64 2147483647)] 30) := (HX2.out.gr hg2)
  have HG3 : Hid (Gr w w2) := (HG2.out.trans hg2)
  clear HA2 HB2 HR2 HX2 HG2
  clear hx2 hg2
  have HA4 : Hid (AtA ((w2.setCell ⟨w1.heap.size, 0, none⟩ (.int .u64 (iv (atv &&& btv)))).setCell ⟨w1.heap.size, 1, none⟩ (.int .u64 (iv (Tn.andM atv atm btv btm)))) w.heap.size #[(.int .u64 (iv atv)), (.int .u64 (iv atm)), (.int .u64 aul), (.int .u64 auh), (.int .i64 asl), (.int .i64 ash), (.int .u64 awl), (.int .u64 awh), (.int .i64 avl), (.int .i64 avh)] 30) := ((HA3.out.other (by omega) (.int .u64 (iv (atv &&& btv)))).other (by omega) (.int .u64 (iv (Tn.andM atv atm btv btm))))
  have HB4 : Hid (AtA ((w2.setCell ⟨w1.heap.size, 0, none⟩ (.int .u64 (iv (atv &&& btv)))).setCell ⟨w1.heap.size, 1, none⟩ (.int .u64 (iv (Tn.andM atv atm btv btm)))) (w.heap.size + 1) #[(.int .u64 (iv btv)), (.int .u64 (iv btm)), (.int .u64 bul), (.int .u64 buh), (.int .i64 bsl), (.int .i64 bsh), (.int .u64 bwl), (.int .u64 bwh), (.int .i64 bvl), (.int .i64 bvh)] 30) := ((HB3.out.other (by omega) (.int .u64 (iv (atv &&& btv)))).other (by omega) (.int .u64 (iv (Tn.andM atv atm btv btm))))
  have HR4 : Hid (AtA ((w2.setCell ⟨w1.heap.size, 0, none⟩ (.int .u64 (iv (atv &&& btv)))).setCell ⟨w1.heap.size, 1, none⟩ (.int .u64 (iv (Tn.andM atv atm btv btm)))) (w.heap.size + 1 + 1) #[(.int .u64 0), (.int .u64 0), (.int .u64 0), (.int .u64 0), (.int .i64 0), (.int .i64 0), (.int .u64 0), (.int .u64 0), (.int .i64 0), (.int .i64 0)] 30) := ((HR3.out.other (by omega) (.int .u64 (iv (atv &&& btv)))).other (by omega) (.int .u64 (iv (Tn.andM atv atm btv btm))))
  have HX4 : Hid (AtA ((w2.setCell ⟨w1.heap.size, 0, none⟩ (.int .u64 (iv (atv &&& btv)))).setCell ⟨w1.heap.size, 1, none⟩ (.int .u64 (iv (Tn.andM atv atm btv btm)))) w1.heap.size #[(.int .u64 (iv (atv &&& btv))), (.int .u64 (iv (Tn.andM atv atm btv btm))), (.int .u64 0), (.int .u64 18446744073709551615), (.int .i64 (-9223372036854775808)), (.int .i64 9223372036854775807), (.int .u64 0), (.int .u64 4294967295), (.int .i64 (-2147483648)), (.int .i64 2147483647)] 30) := by have h := ((HX3.out.st 0 (.int .u64 (iv (atv &&& btv)))).st 1 (.int .u64 (iv (Tn.andM atv atm btv btm)))); simp only [List.setIfInBounds_toArray, List.set_cons_zero, List.set_cons_succ] at h; exact h
  have HG4 : Hid (Gr w ((w2.setCell ⟨w1.heap.size, 0, none⟩ (.int .u64 (iv (atv &&& btv)))).setCell ⟨w1.heap.size, 1, none⟩ (.int .u64 (iv (Tn.andM atv atm btv btm))))) := ((HG3.out.set (by omega) (.int .u64 (iv (atv &&& btv)))).set (by omega) (.int .u64 (iv (Tn.andM atv atm btv btm))))
  clear HA3 HB3 HR3 HX3 HG3
  have k9 := HA4.out.cell 3
  have k10 := HB4.out.cell 3
  simp only [List.getElem?_toArray, List.getElem?_cons_zero, List.getElem?_cons_succ] at k9 k10
  have k11 := HX4.out.f 3
  have k12 := HX4.out.cell 3
  simp only [List.getElem?_toArray, List.getElem?_cons_zero, List.getElem?_cons_succ] at k12
  go_upto_region 4 with fail
  all_goals first | omega | skip
  clear k9 k10 k11 k12
  have HA5 : Hid (AtA (((w2.setCell ⟨w1.heap.size, 0, none⟩ (.int .u64 (iv (atv &&& btv)))).setCell ⟨w1.heap.size, 1, none⟩ (.int .u64 (iv (Tn.andM atv atm btv btm)))).setCell ⟨w1.heap.size, 3, none⟩ (.int .u64 auh)) w.heap.size #[(.int .u64 (iv atv)), (.int .u64 (iv atm)), (.int .u64 aul), (.int .u64 auh), (.int .i64 asl), (.int .i64 ash), (.int .u64 awl), (.int .u64 awh), (.int .i64 avl), (.int .i64 avh)] 30) := (HA4.out.other (by omega) (.int .u64 auh))
  have HB5 : Hid (AtA (((w2.setCell ⟨w1.heap.size, 0, none⟩ (.int .u64 (iv (atv &&& btv)))).setCell ⟨w1.heap.size, 1, none⟩ (.int .u64 (iv (Tn.andM atv atm btv btm)))).setCell ⟨w1.heap.size, 3, none⟩ (.int .u64 auh)) (w.heap.size + 1) #[(.int .u64 (iv btv)), (.int .u64 (iv btm)), (.int .u64 bul), (.int .u64 buh), (.int .i64 bsl), (.int .i64 bsh), (.int .u64 bwl), (.int .u64 bwh), (.int .i64 bvl), (.int .i64 bvh)] 30) := (HB4.out.other (by omega) (.int .u64 auh))
  have HR5 : Hid (AtA (((w2.setCell ⟨w1.heap.size, 0, none⟩ (.int .u64 (iv (atv &&& btv)))).setCell ⟨w1.heap.size, 1, none⟩ (.int .u64 (iv (Tn.andM atv atm btv btm)))).setCell ⟨w1.heap.size, 3, none⟩ (.int .u64 auh)) (w.heap.size + 1 + 1) #[(.int .u64 0), (.int .u64 0), (.int .u64 0), (.int .u64 0), (.int .i64 0), (.int .i64 0), (.int .u64 0), (.int .u64 0), (.int .i64 0), (.int .i64 0)] 30) := (HR4.out.other (by omega) (.int .u64 auh))
  have HX5 : Hid (AtA (((w2.setCell ⟨w1.heap.size, 0, none⟩ (.int .u64 (iv (atv &&& btv)))).setCell ⟨w1.heap.size, 1, none⟩ (.int .u64 (iv (Tn.andM atv atm btv btm)))).setCell ⟨w1.heap.size, 3, none⟩ (.int .u64 auh)) w1.heap.size #[(.int .u64 (iv (atv &&& btv))), (.int .u64 (iv (Tn.andM atv atm btv btm))), (.int .u64 0), (.int .u64 auh), (.int .i64 (-9223372036854775808)), (.int .i64 9223372036854775807), (.int .u64 0), (.int .u64 4294967295), (.int .i64 (-2147483648)), (.int .i64 2147483647)] 30) := by have h := (HX4.out.st 3 (.int .u64 auh)); simp only [List.setIfInBounds_toArray, List.set_cons_zero, List.set_cons_succ] at h; exact h
  have HG5 : Hid (Gr w (((w2.setCell ⟨w1.heap.size, 0, none⟩ (.int .u64 (iv (atv &&& btv)))).setCell ⟨w1.heap.size, 1, none⟩ (.int .u64 (iv (Tn.andM atv atm btv btm)))).setCell ⟨w1.heap.size, 3, none⟩ (.int .u64 auh))) := (HG4.out.set (by omega) (.int .u64 auh))
  clear HA4 HB4 HR4 HX4 HG4
  have k13 := HA5.out.cell 7
  have k14 := HB5.out.cell 7
  simp only [List.getElem?_toArray, List.getElem?_cons_zero, List.getElem?_cons_succ] at k13 k14
  have k15 := HX5.out.f 7
  have k16 := HX5.out.cell 7
  simp only [List.getElem?_toArray, List.getElem?_cons_zero, List.getElem?_cons_succ] at k16
  go_upto_region 5 with fail
  all_goals first | omega | skip
  clear k13 k14 k15 k16
  have HA6 : Hid (AtA ((((w2.setCell ⟨w1.heap.size, 0, none⟩ (.int .u64 (iv (atv &&& btv)))).setCell ⟨w1.heap.size, 1, none⟩ (.int .u64 (iv (Tn.andM atv atm btv btm)))).setCell ⟨w1.heap.size, 3, none⟩ (.int .u64 auh)).setCell ⟨w1.heap.size, 7, none⟩ (.int .u64 awh)) w.heap.size #[(.int .u64 (iv atv)), (.int .u64 (iv atm)), (.int .u64 aul), (.int .u64 auh), (.int .i64 asl), (.int .i64 ash), (.int .u64 awl), (.int .u64 awh), (.int .i64 avl), (.int .i64 avh)] 30) := (HA5.out.other (by omega) (.int .u64 awh))
  have HB6 : Hid (AtA ((((w2.setCell ⟨w1.heap.size, 0, none⟩ (.int .u64 (iv (atv &&& btv)))).setCell ⟨w1.heap.size, 1, none⟩ (.int .u64 (iv (Tn.andM atv atm btv btm)))).setCell ⟨w1.heap.size, 3, none⟩ (.int .u64 auh)).setCell ⟨w1.heap.size, 7, none⟩ (.int .u64 awh)) (w.heap.size + 1) #[(.int .u64 (iv btv)), (.int .u64 (iv btm)), (.int .u64 bul), (.int .u64 buh), (.int .i64 bsl), (.int .i64 bsh), (.int .u64 bwl), (.int .u64 bwh), (.int .i64 bvl), (.int .i64 bvh)] 30) := (HB5.out.other (by omega) (.int .u64 awh))
  have HR6 : Hid (AtA ((((w2.setCell ⟨w1.heap.size, 0, none⟩ (.int .u64 (iv (atv &&& btv)))).setCell ⟨w1.heap.size, 1, none⟩ (.int .u64 (iv (Tn.andM atv atm btv btm)))).setCell ⟨w1.heap.size, 3, none⟩ (.int .u64 auh)).setCell ⟨w1.heap.size, 7, none⟩ (.int .u64 awh)) (w.heap.size + 1 + 1) #[(.int .u64 0), (.int .u64 0), (.int .u64 0), (.int .u64 0), (.int .i64 0), (.int .i64 0), (.int .u64 0), (.int .u64 0), (.int .i64 0), (.int .i64 0)] 30) := (HR5.out.other (by omega) (.int .u64 awh))
  have HX6 : Hid (AtA ((((w2.setCell ⟨w1.heap.size, 0, none⟩ (.int .u64 (iv (atv &&& btv)))).setCell ⟨w1.heap.size, 1, none⟩ (.int .u64 (iv (Tn.andM atv atm btv btm)))).setCell ⟨w1.heap.size, 3, none⟩ (.int .u64 auh)).setCell ⟨w1.heap.size, 7, none⟩ (.int .u64 awh)) w1.heap.size #[(.int .u64 (iv (atv &&& btv))), (.int .u64 (iv (Tn.andM atv atm btv btm))), (.int .u64 0), (.int .u64 auh), (.int .i64 (-9223372036854775808)), (.int .i64 9223372036854775807), (.int .u64 0), (.int .u64 awh), (.int .i64 (-2147483648)), (.int .i64 2147483647)] 30) := by have h := (HX5.out.st 7 (.int .u64 awh)); simp only [List.setIfInBounds_toArray, List.set_cons_zero, List.set_cons_succ] at h; exact h
  have HG6 : Hid (Gr w ((((w2.setCell ⟨w1.heap.size, 0, none⟩ (.int .u64 (iv (atv &&& btv)))).setCell ⟨w1.heap.size, 1, none⟩ (.int .u64 (iv (Tn.andM atv atm btv btm)))).setCell ⟨w1.heap.size, 3, none⟩ (.int .u64 auh)).setCell ⟨w1.heap.size, 7, none⟩ (.int .u64 awh))) := (HG5.out.set (by omega) (.int .u64 awh))
  clear HA5 HB5 HR5 HX5 HG5
  have k17 := HX6.out.cell 0
  have k18 := HX6.out.cell 1
  have k19 := HX6.out.cell 2
  have k20 := HX6.out.cell 3
  have k21 := HX6.out.cell 4
  have k22 := HX6.out.cell 5
  have k23 := HX6.out.cell 6
  have k24 := HX6.out.cell 7
  have k25 := HX6.out.cell 8
  have k26 := HX6.out.cell 9
  simp only [List.getElem?_toArray, List.getElem?_cons_zero, List.getElem?_cons_succ] at k17 k18 k19 k20 k21 k22 k23 k24 k25 k26
  go_wp2_with (first
    | (go_at_call 11; refine (sync_q _ _ _ _ _ _ _ _ _ _ r HR.out inU_z (by assumption) inS_z inS_f _).mono ?_; rintro e w3 ⟨rfl, hg⟩; have hr : Hid (AtA w3 (w.heap.size + 1 + 1) _ 30) := HR6.out.gr hg; have hG : Hid (Gr w w3) := HG6.out.trans hg; clear hg
       have f0 := (hr.out).f 0
       have f1 := (hr.out).f 1
       have f2 := (hr.out).f 2
       have f3 := (hr.out).f 3
       have f4 := (hr.out).f 4
       have f5 := (hr.out).f 5
       have f6 := (hr.out).f 6
       have f7 := (hr.out).f 7
       have f8 := (hr.out).f 8
       have f9 := (hr.out).f 9
       have d0 := (hr.out).cell 0
       have d1 := (hr.out).cell 1
       have d2 := (hr.out).cell 2
       have d3 := (hr.out).cell 3
       have d4 := (hr.out).cell 4
       have d5 := (hr.out).cell 5
       have d6 := (hr.out).cell 6
       have d7 := (hr.out).cell 7
       have d8 := (hr.out).cell 8
       have d9 := (hr.out).cell 9
       simp only [List.getElem?_toArray, List.getElem?_cons_zero, List.getElem?_cons_succ] at d0 d1 d2 d3 d4 d5 d6 d7 d8 d9
       have hz := (((((((((((hr.out).st 0 (.int .u64 (iv r.tv))).st 1 (.int .u64 (iv r.tm))).st 2 (.int .u64 r.ul)).st 3 (.int .u64 r.uh)).st 4 (.int .i64 r.sl)).st 5 (.int .i64 r.sh)).st 6 (.int .u64 r.wl)).st 7 (.int .u64 r.wh)).st 8 (.int .i64 r.vl)).st 9 (.int .i64 r.vh))
       simp only [List.setIfInBounds_toArray, List.set_cons_zero, List.set_cons_succ] at hz
       have e0 := hz.cell 0
       have e1 := hz.cell 1
       have e2 := hz.cell 2
       have e3 := hz.cell 3
       have e4 := hz.cell 4
       have e5 := hz.cell 5
       have e6 := hz.cell 6
       have e7 := hz.cell 7
       have e8 := hz.cell 8
       have e9 := hz.cell 9
       simp only [List.getElem?_toArray, List.getElem?_cons_zero, List.getElem?_cons_succ] at e0 e1 e2 e3 e4 e5 e6 e7 e8 e9
       clear hz))
  refine bodyPost_ret (by simp [results, Tryz.results130, go_sem, e0, e1, e2, e3, e4, e5, e6, e7, e8, e9]; try rfl) rfl ?_
  exact ⟨rfl, ((((((((((hG.out.set (by omega) _).set (by omega) _).set (by omega) _).set (by omega) _).set (by omega) _).set (by omega) _).set (by omega) _).set (by omega) _).set (by omega) _).set (by omega) _)⟩
set_option maxHeartbeats 4000000 in
theorem anded_1 (atv atm : BitVec 64) (aul auh asl ash awl awh avl avh : Int) (btv btm : BitVec 64) (bul buh bsl bsh bwl bwh bvl bvh : Int) (r : Bd) (hr : syncM ⟨(atv &&& btv), (Tn.andM atv atm btv btm), 0, auh, (-9223372036854775808), 9223372036854775807, 0, bwh, (-2147483648), 2147483647⟩ = r) (h1 : auh ≤ buh) (h2 : bwh < awh) (hauh : InU auh) (hbuh : InU buh) (w : World) : Calls Tryz.prog 130 #[.agg #[.int .u64 (iv atv), .int .u64 (iv atm), .int .u64 aul, .int .u64 auh, .int .i64 asl, .int .i64 ash, .int .u64 awl, .int .u64 awh, .int .i64 avl, .int .i64 avh], .agg #[.int .u64 (iv btv), .int .u64 (iv btm), .int .u64 bul, .int .u64 buh, .int .i64 bsl, .int .i64 bsh, .int .u64 bwl, .int .u64 bwh, .int .i64 bvl, .int .i64 bvh]] w fun e w' => e = .returned (.agg #[.int .u64 (iv r.tv), .int .u64 (iv r.tm), .int .u64 r.ul, .int .u64 r.uh, .int .i64 r.sl, .int .i64 r.sh, .int .u64 r.wl, .int .u64 r.wh, .int .i64 r.vl, .int .i64 r.vh]) ∧ Gr w w' := by
  have HR : Hid (syncM ⟨(atv &&& btv), (Tn.andM atv atm btv btm), 0, auh, (-9223372036854775808), 9223372036854775807, 0, bwh, (-2147483648), 2147483647⟩ = r) := hr
  clear hr
  go_enter Tryz.func130, Tryz.ntmps130
  go_upto_region 1 with fail
  have HA1 : Hid (AtA (((w.alloc (.cells #[.int .u64 (iv atv), .int .u64 (iv atm), .int .u64 aul, .int .u64 auh, .int .i64 asl, .int .i64 ash, .int .u64 awl, .int .u64 awh, .int .i64 avl, .int .i64 avh] 30)).alloc (.cells #[.int .u64 (iv btv), .int .u64 (iv btm), .int .u64 bul, .int .u64 buh, .int .i64 bsl, .int .i64 bsh, .int .u64 bwl, .int .u64 bwh, .int .i64 bvl, .int .i64 bvh] 30)).alloc (.cells #[.int .u64 0, .int .u64 0, .int .u64 0, .int .u64 0, .int .i64 0, .int .i64 0, .int .u64 0, .int .u64 0, .int .i64 0, .int .i64 0] 30)) w.heap.size #[(.int .u64 (iv atv)), (.int .u64 (iv atm)), (.int .u64 aul), (.int .u64 auh), (.int .i64 asl), (.int .i64 ash), (.int .u64 awl), (.int .u64 awh), (.int .i64 avl), (.int .i64 avh)] 30) := (((AtA.newb _ (by simp) _ _).alloc _).alloc _)
  have HB1 : Hid (AtA (((w.alloc (.cells #[.int .u64 (iv atv), .int .u64 (iv atm), .int .u64 aul, .int .u64 auh, .int .i64 asl, .int .i64 ash, .int .u64 awl, .int .u64 awh, .int .i64 avl, .int .i64 avh] 30)).alloc (.cells #[.int .u64 (iv btv), .int .u64 (iv btm), .int .u64 bul, .int .u64 buh, .int .i64 bsl, .int .i64 bsh, .int .u64 bwl, .int .u64 bwh, .int .i64 bvl, .int .i64 bvh] 30)).alloc (.cells #[.int .u64 0, .int .u64 0, .int .u64 0, .int .u64 0, .int .i64 0, .int .i64 0, .int .u64 0, .int .u64 0, .int .i64 0, .int .i64 0] 30)) (w.heap.size + 1) #[(.int .u64 (iv btv)), (.int .u64 (iv btm)), (.int .u64 bul), (.int .u64 buh), (.int .i64 bsl), (.int .i64 bsh), (.int .u64 bwl), (.int .u64 bwh), (.int .i64 bvl), (.int .i64 bvh)] 30) := ((AtA.newb _ (by simp) _ _).alloc _)
  have HR1 : Hid (AtA (((w.alloc (.cells #[.int .u64 (iv atv), .int .u64 (iv atm), .int .u64 aul, .int .u64 auh, .int .i64 asl, .int .i64 ash, .int .u64 awl, .int .u64 awh, .int .i64 avl, .int .i64 avh] 30)).alloc (.cells #[.int .u64 (iv btv), .int .u64 (iv btm), .int .u64 bul, .int .u64 buh, .int .i64 bsl, .int .i64 bsh, .int .u64 bwl, .int .u64 bwh, .int .i64 bvl, .int .i64 bvh] 30)).alloc (.cells #[.int .u64 0, .int .u64 0, .int .u64 0, .int .u64 0, .int .i64 0, .int .i64 0, .int .u64 0, .int .u64 0, .int .i64 0, .int .i64 0] 30)) (w.heap.size + 1 + 1) #[(.int .u64 0), (.int .u64 0), (.int .u64 0), (.int .u64 0), (.int .i64 0), (.int .i64 0), (.int .u64 0), (.int .u64 0), (.int .i64 0), (.int .i64 0)] 30) := (AtA.newb _ (by simp) _ _)
  have HG1 : Hid (Gr w (((w.alloc (.cells #[.int .u64 (iv atv), .int .u64 (iv atm), .int .u64 aul, .int .u64 auh, .int .i64 asl, .int .i64 ash, .int .u64 awl, .int .u64 awh, .int .i64 avl, .int .i64 avh] 30)).alloc (.cells #[.int .u64 (iv btv), .int .u64 (iv btm), .int .u64 bul, .int .u64 buh, .int .i64 bsl, .int .i64 bsh, .int .u64 bwl, .int .u64 bwh, .int .i64 bvl, .int .i64 bvh] 30)).alloc (.cells #[.int .u64 0, .int .u64 0, .int .u64 0, .int .u64 0, .int .i64 0, .int .i64 0, .int .u64 0, .int .u64 0, .int .i64 0, .int .i64 0] 30))) := (⟨by go_grown, by go_grown⟩ : Gr w _)
  go_upto_region 2 with (first | (go_at_call 51; refine (any_any _).mono ?_; rintro e w1 ⟨rfl, hg1⟩))
  have hsz : w.heap.size + 3 ≤ w1.heap.size := by
    have := hg1.below.size
    simp at this
    omega
  have HA2 : Hid (AtA (w1.alloc (.cells #[(.int .u64 (iv 0#64)), (.int .u64 (iv 18446744073709551615#64)), (.int .u64 0), (.int .u64 18446744073709551615), (.int .i64 (-9223372036854775808)), (.int .i64 9223372036854775807), (.int .u64 0), (.int .u64 4294967295), (.int .i64 (-2147483648)), (.int .i64 2147483647)] 30)) w.heap.size #[(.int .u64 (iv atv)), (.int .u64 (iv atm)), (.int .u64 aul), (.int .u64 auh), (.int .i64 asl), (.int .i64 ash), (.int .u64 awl), (.int .u64 awh), (.int .i64 avl), (.int .i64 avh)] 30) := (HA1.out.gr hg1).alloc _
  have HB2 : Hid (AtA (w1.alloc (.cells #[(.int .u64 (iv 0#64)), (.int .u64 (iv 18446744073709551615#64)), (.int .u64 0), (.int .u64 18446744073709551615), (.int .i64 (-9223372036854775808)), (.int .i64 9223372036854775807), (.int .u64 0), (.int .u64 4294967295), (.int .i64 (-2147483648)), (.int .i64 2147483647)] 30)) (w.heap.size + 1) #[(.int .u64 (iv btv)), (.int .u64 (iv btm)), (.int .u64 bul), (.int .u64 buh), (.int .i64 bsl), (.int .i64 bsh), (.int .u64 bwl), (.int .u64 bwh), (.int .i64 bvl), (.int .i64 bvh)] 30) := (HB1.out.gr hg1).alloc _
  have HR2 : Hid (AtA (w1.alloc (.cells #[(.int .u64 (iv 0#64)), (.int .u64 (iv 18446744073709551615#64)), (.int .u64 0), (.int .u64 18446744073709551615), (.int .i64 (-9223372036854775808)), (.int .i64 9223372036854775807), (.int .u64 0), (.int .u64 4294967295), (.int .i64 (-2147483648)), (.int .i64 2147483647)] 30)) (w.heap.size + 1 + 1) #[(.int .u64 0), (.int .u64 0), (.int .u64 0), (.int .u64 0), (.int .i64 0), (.int .i64 0), (.int .u64 0), (.int .u64 0), (.int .i64 0), (.int .i64 0)] 30) := (HR1.out.gr hg1).alloc _
  have HX2 : Hid (AtA (w1.alloc (.cells #[(.int .u64 (iv 0#64)), (.int .u64 (iv 18446744073709551615#64)), (.int .u64 0), (.int .u64 18446744073709551615), (.int .i64 (-9223372036854775808)), (.int .i64 9223372036854775807), (.int .u64 0), (.int .u64 4294967295), (.int .i64 (-2147483648)), (.int .i64 2147483647)] 30)) w1.heap.size #[(.int .u64 (iv 0#64)), (.int .u64 (iv 18446744073709551615#64)), (.int .u64 0), (.int .u64 18446744073709551615), (.int .i64 (-9223372036854775808)), (.int .i64 9223372036854775807), (.int .u64 0), (.int .u64 4294967295), (.int .i64 (-2147483648)), (.int .i64 2147483647)] 30) := AtA.newb _ rfl _ _
  have HG2 : Hid (Gr w (w1.alloc (.cells #[(.int .u64 (iv 0#64)), (.int .u64 (iv 18446744073709551615#64)), (.int .u64 0), (.int .u64 18446744073709551615), (.int .i64 (-9223372036854775808)), (.int .i64 9223372036854775807), (.int .u64 0), (.int .u64 4294967295), (.int .i64 (-2147483648)), (.int .i64 2147483647)] 30))) := (HG1.out.trans hg1).alloc _ _
  clear HA1 HB1 HR1 HG1
  clear hg1
  have k1 := HA2.out.cell 0
  have k2 := HA2.out.cell 1
  have k3 := HB2.out.cell 0
  have k4 := HB2.out.cell 1
  simp only [List.getElem?_toArray, List.getElem?_cons_zero, List.getElem?_cons_succ] at k1 k2 k3 k4
  go_upto_region 3 with (first | (go_at_call 193; refine (cv (Tn.and_any _ _ _ _ _)).mono ?_; rintro e w2 ⟨rfl, hg2⟩ ; have hx2 : Hid (AtA w2 w1.heap.size #[(.int .u64 (iv 0#64)), (.int .u64 (iv 18446744073709551615#64)), (.int .u64 0), (.int .u64 18446744073709551615), (.int .i64 (-9223372036854775808)), (.int .i64 9223372036854775807), (.int .u64 0), (.int .u64 4294967295), (.int .i64 (-2147483648)), (.int .i64 2147483647)] 30) := (HX2.out.gr hg2); have k5 := hx2.out.f 0; have k6 := hx2.out.cell 0; have k7 := hx2.out.f 1; have k8 := hx2.out.cell 1; simp only [List.getElem?_toArray, List.getElem?_cons_zero, List.getElem?_cons_succ] at k6 k8))
  clear k1 k2 k3 k4 k5 k6 k7 k8
  have HA3 : Hid (AtA w2 w.heap.size #[(.int .u64 (iv atv)), (.int .u64 (iv atm)), (.int .u64 aul), (.int .u64 auh), (.int .i64 asl), (.int .i64 ash), (.int .u64 awl), (.int .u64 awh), (.int .i64 avl), (.int .i64 avh)] 30) := (HA2.out.gr hg2)
  have HB3 : Hid (AtA w2 (w.heap.size + 1) #[(.int .u64 (iv btv)), (.int .u64 (iv btm)), (.int .u64 bul), (.int .u64 buh), (.int .i64 bsl), (.int .i64 bsh), (.int .u64 bwl), (.int .u64 bwh), (.int .i64 bvl), (.int .i64 bvh)] 30) := (HB2.out.gr hg2)
  have HR3 : Hid (AtA w2 (w.heap.size + 1 + 1) #[(.int .u64 0), (.int .u64 0), (.int .u64 0), (.int .u64 0), (.int .i64 0), (.int .i64 0), (.int .u64 0), (.int .u64 0), (.int .i64 0), (.int .i64 0)] 30) := (HR2.out.gr hg2)
  have HX3 : Hid (AtA w2 w1.heap.size #[(.int .u64 (iv 0#64)), (.int .u64 (iv 18446744073709551615#64)), (.int .u64 0), (.int .u64 18446744073709551615), (.int .i64 (-9223372036854775808)), (.int .i64 9223372036854775807), (.int .u64 0), (.int .u64 4294967295), (.int .i64 (-2147483648)), (.int .i64 2147483647)] 30) := (HX2.out.gr hg2)
  have HG3 : Hid (Gr w w2) := (HG2.out.trans hg2)
  clear HA2 HB2 HR2 HX2 HG2
  clear hx2 hg2
  have HA4 : Hid (AtA ((w2.setCell ⟨w1.heap.size, 0, none⟩ (.int .u64 (iv (atv &&& btv)))).setCell ⟨w1.heap.size, 1, none⟩ (.int .u64 (iv (Tn.andM atv atm btv btm)))) w.heap.size #[(.int .u64 (iv atv)), (.int .u64 (iv atm)), (.int .u64 aul), (.int .u64 auh), (.int .i64 asl), (.int .i64 ash), (.int .u64 awl), (.int .u64 awh), (.int .i64 avl), (.int .i64 avh)] 30) := ((HA3.out.other (by omega) (.int .u64 (iv (atv &&& btv)))).other (by omega) (.int .u64 (iv (Tn.andM atv atm btv btm))))
  have HB4 : Hid (AtA ((w2.setCell ⟨w1.heap.size, 0, none⟩ (.int .u64 (iv (atv &&& btv)))).setCell ⟨w1.heap.size, 1, none⟩ (.int .u64 (iv (Tn.andM atv atm btv btm)))) (w.heap.size + 1) #[(.int .u64 (iv btv)), (.int .u64 (iv btm)), (.int .u64 bul), (.int .u64 buh), (.int .i64 bsl), (.int .i64 bsh), (.int .u64 bwl), (.int .u64 bwh), (.int .i64 bvl), (.int .i64 bvh)] 30) := ((HB3.out.other (by omega) (.int .u64 (iv (atv &&& btv)))).other (by omega) (.int .u64 (iv (Tn.andM atv atm btv btm))))
  have HR4 : Hid (AtA ((w2.setCell ⟨w1.heap.size, 0, none⟩ (.int .u64 (iv (atv &&& btv)))).setCell ⟨w1.heap.size, 1, none⟩ (.int .u64 (iv (Tn.andM atv atm btv btm)))) (w.heap.size + 1 + 1) #[(.int .u64 0), (.int .u64 0), (.int .u64 0), (.int .u64 0), (.int .i64 0), (.int .i64 0), (.int .u64 0), (.int .u64 0), (.int .i64 0), (.int .i64 0)] 30) := ((HR3.out.other (by omega) (.int .u64 (iv (atv &&& btv)))).other (by omega) (.int .u64 (iv (Tn.andM atv atm btv btm))))
  have HX4 : Hid (AtA ((w2.setCell ⟨w1.heap.size, 0, none⟩ (.int .u64 (iv (atv &&& btv)))).setCell ⟨w1.heap.size, 1, none⟩ (.int .u64 (iv (Tn.andM atv atm btv btm)))) w1.heap.size #[(.int .u64 (iv (atv &&& btv))), (.int .u64 (iv (Tn.andM atv atm btv btm))), (.int .u64 0), (.int .u64 18446744073709551615), (.int .i64 (-9223372036854775808)), (.int .i64 9223372036854775807), (.int .u64 0), (.int .u64 4294967295), (.int .i64 (-2147483648)), (.int .i64 2147483647)] 30) := by have h := ((HX3.out.st 0 (.int .u64 (iv (atv &&& btv)))).st 1 (.int .u64 (iv (Tn.andM atv atm btv btm)))); simp only [List.setIfInBounds_toArray, List.set_cons_zero, List.set_cons_succ] at h; exact h
  have HG4 : Hid (Gr w ((w2.setCell ⟨w1.heap.size, 0, none⟩ (.int .u64 (iv (atv &&& btv)))).setCell ⟨w1.heap.size, 1, none⟩ (.int .u64 (iv (Tn.andM atv atm btv btm))))) := ((HG3.out.set (by omega) (.int .u64 (iv (atv &&& btv)))).set (by omega) (.int .u64 (iv (Tn.andM atv atm btv btm))))
  clear HA3 HB3 HR3 HX3 HG3
  have k9 := HA4.out.cell 3
  have k10 := HB4.out.cell 3
  simp only [List.getElem?_toArray, List.getElem?_cons_zero, List.getElem?_cons_succ] at k9 k10
  have k11 := HX4.out.f 3
  have k12 := HX4.out.cell 3
  simp only [List.getElem?_toArray, List.getElem?_cons_zero, List.getElem?_cons_succ] at k12
  go_upto_region 4 with fail
  all_goals first | omega | skip
  clear k9 k10 k11 k12
  have HA5 : Hid (AtA (((w2.setCell ⟨w1.heap.size, 0, none⟩ (.int .u64 (iv (atv &&& btv)))).setCell ⟨w1.heap.size, 1, none⟩ (.int .u64 (iv (Tn.andM atv atm btv btm)))).setCell ⟨w1.heap.size, 3, none⟩ (.int .u64 auh)) w.heap.size #[(.int .u64 (iv atv)), (.int .u64 (iv atm)), (.int .u64 aul), (.int .u64 auh), (.int .i64 asl), (.int .i64 ash), (.int .u64 awl), (.int .u64 awh), (.int .i64 avl), (.int .i64 avh)] 30) := (HA4.out.other (by omega) (.int .u64 auh))
  have HB5 : Hid (AtA (((w2.setCell ⟨w1.heap.size, 0, none⟩ (.int .u64 (iv (atv &&& btv)))).setCell ⟨w1.heap.size, 1, none⟩ (.int .u64 (iv (Tn.andM atv atm btv btm)))).setCell ⟨w1.heap.size, 3, none⟩ (.int .u64 auh)) (w.heap.size + 1) #[(.int .u64 (iv btv)), (.int .u64 (iv btm)), (.int .u64 bul), (.int .u64 buh), (.int .i64 bsl), (.int .i64 bsh), (.int .u64 bwl), (.int .u64 bwh), (.int .i64 bvl), (.int .i64 bvh)] 30) := (HB4.out.other (by omega) (.int .u64 auh))
  have HR5 : Hid (AtA (((w2.setCell ⟨w1.heap.size, 0, none⟩ (.int .u64 (iv (atv &&& btv)))).setCell ⟨w1.heap.size, 1, none⟩ (.int .u64 (iv (Tn.andM atv atm btv btm)))).setCell ⟨w1.heap.size, 3, none⟩ (.int .u64 auh)) (w.heap.size + 1 + 1) #[(.int .u64 0), (.int .u64 0), (.int .u64 0), (.int .u64 0), (.int .i64 0), (.int .i64 0), (.int .u64 0), (.int .u64 0), (.int .i64 0), (.int .i64 0)] 30) := (HR4.out.other (by omega) (.int .u64 auh))
  have HX5 : Hid (AtA (((w2.setCell ⟨w1.heap.size, 0, none⟩ (.int .u64 (iv (atv &&& btv)))).setCell ⟨w1.heap.size, 1, none⟩ (.int .u64 (iv (Tn.andM atv atm btv btm)))).setCell ⟨w1.heap.size, 3, none⟩ (.int .u64 auh)) w1.heap.size #[(.int .u64 (iv (atv &&& btv))), (.int .u64 (iv (Tn.andM atv atm btv btm))), (.int .u64 0), (.int .u64 auh), (.int .i64 (-9223372036854775808)), (.int .i64 9223372036854775807), (.int .u64 0), (.int .u64 4294967295), (.int .i64 (-2147483648)), (.int .i64 2147483647)] 30) := by have h := (HX4.out.st 3 (.int .u64 auh)); simp only [List.setIfInBounds_toArray, List.set_cons_zero, List.set_cons_succ] at h; exact h
  have HG5 : Hid (Gr w (((w2.setCell ⟨w1.heap.size, 0, none⟩ (.int .u64 (iv (atv &&& btv)))).setCell ⟨w1.heap.size, 1, none⟩ (.int .u64 (iv (Tn.andM atv atm btv btm)))).setCell ⟨w1.heap.size, 3, none⟩ (.int .u64 auh))) := (HG4.out.set (by omega) (.int .u64 auh))
  clear HA4 HB4 HR4 HX4 HG4
  have k13 := HA5.out.cell 7
  have k14 := HB5.out.cell 7
  simp only [List.getElem?_toArray, List.getElem?_cons_zero, List.getElem?_cons_succ] at k13 k14
  have k15 := HX5.out.f 7
  have k16 := HX5.out.cell 7
  simp only [List.getElem?_toArray, List.getElem?_cons_zero, List.getElem?_cons_succ] at k16
  go_upto_region 5 with fail
  all_goals first | omega | skip
  clear k13 k14 k15 k16
  have HA6 : Hid (AtA ((((w2.setCell ⟨w1.heap.size, 0, none⟩ (.int .u64 (iv (atv &&& btv)))).setCell ⟨w1.heap.size, 1, none⟩ (.int .u64 (iv (Tn.andM atv atm btv btm)))).setCell ⟨w1.heap.size, 3, none⟩ (.int .u64 auh)).setCell ⟨w1.heap.size, 7, none⟩ (.int .u64 bwh)) w.heap.size #[(.int .u64 (iv atv)), (.int .u64 (iv atm)), (.int .u64 aul), (.int .u64 auh), (.int .i64 asl), (.int .i64 ash), (.int .u64 awl), (.int .u64 awh), (.int .i64 avl), (.int .i64 avh)] 30) := (HA5.out.other (by omega) (.int .u64 bwh))
  have HB6 : Hid (AtA ((((w2.setCell ⟨w1.heap.size, 0, none⟩ (.int .u64 (iv (atv &&& btv)))).setCell ⟨w1.heap.size, 1, none⟩ (.int .u64 (iv (Tn.andM atv atm btv btm)))).setCell ⟨w1.heap.size, 3, none⟩ (.int .u64 auh)).setCell ⟨w1.heap.size, 7, none⟩ (.int .u64 bwh)) (w.heap.size + 1) #[(.int .u64 (iv btv)), (.int .u64 (iv btm)), (.int .u64 bul), (.int .u64 buh), (.int .i64 bsl), (.int .i64 bsh), (.int .u64 bwl), (.int .u64 bwh), (.int .i64 bvl), (.int .i64 bvh)] 30) := (HB5.out.other (by omega) (.int .u64 bwh))
  have HR6 : Hid (AtA ((((w2.setCell ⟨w1.heap.size, 0, none⟩ (.int .u64 (iv (atv &&& btv)))).setCell ⟨w1.heap.size, 1, none⟩ (.int .u64 (iv (Tn.andM atv atm btv btm)))).setCell ⟨w1.heap.size, 3, none⟩ (.int .u64 auh)).setCell ⟨w1.heap.size, 7, none⟩ (.int .u64 bwh)) (w.heap.size + 1 + 1) #[(.int .u64 0), (.int .u64 0), (.int .u64 0), (.int .u64 0), (.int .i64 0), (.int .i64 0), (.int .u64 0), (.int .u64 0), (.int .i64 0), (.int .i64 0)] 30) := (HR5.out.other (by omega) (.int .u64 bwh))
  have HX6 : Hid (AtA ((((w2.setCell ⟨w1.heap.size, 0, none⟩ (.int .u64 (iv (atv &&& btv)))).setCell ⟨w1.heap.size, 1, none⟩ (.int .u64 (iv (Tn.andM atv atm btv btm)))).setCell ⟨w1.heap.size, 3, none⟩ (.int .u64 auh)).setCell ⟨w1.heap.size, 7, none⟩ (.int .u64 bwh)) w1.heap.size #[(.int .u64 (iv (atv &&& btv))), (.int .u64 (iv (Tn.andM atv atm btv btm))), (.int .u64 0), (.int .u64 auh), (.int .i64 (-9223372036854775808)), (.int .i64 9223372036854775807), (.int .u64 0), (.int .u64 bwh), (.int .i64 (-2147483648)), (.int .i64 2147483647)] 30) := by have h := (HX5.out.st 7 (.int .u64 bwh)); simp only [List.setIfInBounds_toArray, List.set_cons_zero, List.set_cons_succ] at h; exact h
  have HG6 : Hid (Gr w ((((w2.setCell ⟨w1.heap.size, 0, none⟩ (.int .u64 (iv (atv &&& btv)))).setCell ⟨w1.heap.size, 1, none⟩ (.int .u64 (iv (Tn.andM atv atm btv btm)))).setCell ⟨w1.heap.size, 3, none⟩ (.int .u64 auh)).setCell ⟨w1.heap.size, 7, none⟩ (.int .u64 bwh))) := (HG5.out.set (by omega) (.int .u64 bwh))
  clear HA5 HB5 HR5 HX5 HG5
  have k17 := HX6.out.cell 0
  have k18 := HX6.out.cell 1
  have k19 := HX6.out.cell 2
  have k20 := HX6.out.cell 3
  have k21 := HX6.out.cell 4
  have k22 := HX6.out.cell 5
  have k23 := HX6.out.cell 6
  have k24 := HX6.out.cell 7
  have k25 := HX6.out.cell 8
  have k26 := HX6.out.cell 9
  simp only [List.getElem?_toArray, List.getElem?_cons_zero, List.getElem?_cons_succ] at k17 k18 k19 k20 k21 k22 k23 k24 k25 k26
  go_wp2_with (first
    | (go_at_call 11; refine (sync_q _ _ _ _ _ _ _ _ _ _ r HR.out inU_z (by assumption) inS_z inS_f _).mono ?_; rintro e w3 ⟨rfl, hg⟩; have hr : Hid (AtA w3 (w.heap.size + 1 + 1) _ 30) := HR6.out.gr hg; have hG : Hid (Gr w w3) := HG6.out.trans hg; clear hg
       have f0 := (hr.out).f 0
       have f1 := (hr.out).f 1
       have f2 := (hr.out).f 2
       have f3 := (hr.out).f 3
       have f4 := (hr.out).f 4
       have f5 := (hr.out).f 5
       have f6 := (hr.out).f 6
       have f7 := (hr.out).f 7
       have f8 := (hr.out).f 8
       have f9 := (hr.out).f 9
       have d0 := (hr.out).cell 0
       have d1 := (hr.out).cell 1
       have d2 := (hr.out).cell 2
       have d3 := (hr.out).cell 3
       have d4 := (hr.out).cell 4
       have d5 := (hr.out).cell 5
       have d6 := (hr.out).cell 6
       have d7 := (hr.out).cell 7
       have d8 := (hr.out).cell 8
       have d9 := (hr.out).cell 9
       simp only [List.getElem?_toArray, List.getElem?_cons_zero, List.getElem?_cons_succ] at d0 d1 d2 d3 d4 d5 d6 d7 d8 d9
       have hz := (((((((((((hr.out).st 0 (.int .u64 (iv r.tv))).st 1 (.int .u64 (iv r.tm))).st 2 (.int .u64 r.ul)).st 3 (.int .u64 r.uh)).st 4 (.int .i64 r.sl)).st 5 (.int .i64 r.sh)).st 6 (.int .u64 r.wl)).st 7 (.int .u64 r.wh)).st 8 (.int .i64 r.vl)).st 9 (.int .i64 r.vh))
       simp only [List.setIfInBounds_toArray, List.set_cons_zero, List.set_cons_succ] at hz
       have e0 := hz.cell 0
       have e1 := hz.cell 1
       have e2 := hz.cell 2
       have e3 := hz.cell 3
       have e4 := hz.cell 4
       have e5 := hz.cell 5
       have e6 := hz.cell 6
       have e7 := hz.cell 7
       have e8 := hz.cell 8
       have e9 := hz.cell 9
       simp only [List.getElem?_toArray, List.getElem?_cons_zero, List.getElem?_cons_succ] at e0 e1 e2 e3 e4 e5 e6 e7 e8 e9
       clear hz))
  refine bodyPost_ret (by simp [results, Tryz.results130, go_sem, e0, e1, e2, e3, e4, e5, e6, e7, e8, e9]; try rfl) rfl ?_
  exact ⟨rfl, ((((((((((hG.out.set (by omega) _).set (by omega) _).set (by omega) _).set (by omega) _).set (by omega) _).set (by omega) _).set (by omega) _).set (by omega) _).set (by omega) _).set (by omega) _)⟩
set_option maxHeartbeats 4000000 in
theorem anded_2 (atv atm : BitVec 64) (aul auh asl ash awl awh avl avh : Int) (btv btm : BitVec 64) (bul buh bsl bsh bwl bwh bvl bvh : Int) (r : Bd) (hr : syncM ⟨(atv &&& btv), (Tn.andM atv atm btv btm), 0, buh, (-9223372036854775808), 9223372036854775807, 0, awh, (-2147483648), 2147483647⟩ = r) (h1 : buh < auh) (h2 : awh ≤ bwh) (hauh : InU auh) (hbuh : InU buh) (w : World) : Calls Tryz.prog 130 #[.agg #[.int .u64 (iv atv), .int .u64 (iv atm), .int .u64 aul, .int .u64 auh, .int .i64 asl, .int .i64 ash, .int .u64 awl, .int .u64 awh, .int .i64 avl, .int .i64 avh], .agg #[.int .u64 (iv btv), .int .u64 (iv btm), .int .u64 bul, .int .u64 buh, .int .i64 bsl, .int .i64 bsh, .int .u64 bwl, .int .u64 bwh, .int .i64 bvl, .int .i64 bvh]] w fun e w' => e = .returned (.agg #[.int .u64 (iv r.tv), .int .u64 (iv r.tm), .int .u64 r.ul, .int .u64 r.uh, .int .i64 r.sl, .int .i64 r.sh, .int .u64 r.wl, .int .u64 r.wh, .int .i64 r.vl, .int .i64 r.vh]) ∧ Gr w w' := by
  have HR : Hid (syncM ⟨(atv &&& btv), (Tn.andM atv atm btv btm), 0, buh, (-9223372036854775808), 9223372036854775807, 0, awh, (-2147483648), 2147483647⟩ = r) := hr
  clear hr
  go_enter Tryz.func130, Tryz.ntmps130
  go_upto_region 1 with fail
  have HA1 : Hid (AtA (((w.alloc (.cells #[.int .u64 (iv atv), .int .u64 (iv atm), .int .u64 aul, .int .u64 auh, .int .i64 asl, .int .i64 ash, .int .u64 awl, .int .u64 awh, .int .i64 avl, .int .i64 avh] 30)).alloc (.cells #[.int .u64 (iv btv), .int .u64 (iv btm), .int .u64 bul, .int .u64 buh, .int .i64 bsl, .int .i64 bsh, .int .u64 bwl, .int .u64 bwh, .int .i64 bvl, .int .i64 bvh] 30)).alloc (.cells #[.int .u64 0, .int .u64 0, .int .u64 0, .int .u64 0, .int .i64 0, .int .i64 0, .int .u64 0, .int .u64 0, .int .i64 0, .int .i64 0] 30)) w.heap.size #[(.int .u64 (iv atv)), (.int .u64 (iv atm)), (.int .u64 aul), (.int .u64 auh), (.int .i64 asl), (.int .i64 ash), (.int .u64 awl), (.int .u64 awh), (.int .i64 avl), (.int .i64 avh)] 30) := (((AtA.newb _ (by simp) _ _).alloc _).alloc _)
  have HB1 : Hid (AtA (((w.alloc (.cells #[.int .u64 (iv atv), .int .u64 (iv atm), .int .u64 aul, .int .u64 auh, .int .i64 asl, .int .i64 ash, .int .u64 awl, .int .u64 awh, .int .i64 avl, .int .i64 avh] 30)).alloc (.cells #[.int .u64 (iv btv), .int .u64 (iv btm), .int .u64 bul, .int .u64 buh, .int .i64 bsl, .int .i64 bsh, .int .u64 bwl, .int .u64 bwh, .int .i64 bvl, .int .i64 bvh] 30)).alloc (.cells #[.int .u64 0, .int .u64 0, .int .u64 0, .int .u64 0, .int .i64 0, .int .i64 0, .int .u64 0, .int .u64 0, .int .i64 0, .int .i64 0] 30)) (w.heap.size + 1) #[(.int .u64 (iv btv)), (.int .u64 (iv btm)), (.int .u64 bul), (.int .u64 buh), (.int .i64 bsl), (.int .i64 bsh), (.int .u64 bwl), (.int .u64 bwh), (.int .i64 bvl), (.int .i64 bvh)] 30) := ((AtA.newb _ (by simp) _ _).alloc _)
  have HR1 : Hid (AtA (((w.alloc (.cells #[.int .u64 (iv atv), .int .u64 (iv atm), .int .u64 aul, .int .u64 auh, .int .i64 asl, .int .i64 ash, .int .u64 awl, .int .u64 awh, .int .i64 avl, .int .i64 avh] 30)).alloc (.cells #[.int .u64 (iv btv), .int .u64 (iv btm), .int .u64 bul, .int .u64 buh, .int .i64 bsl, .int .i64 bsh, .int .u64 bwl, .int .u64 bwh, .int .i64 bvl, .int .i64 bvh] 30)).alloc (.cells #[.int .u64 0, .int .u64 0, .int .u64 0, .int .u64 0, .int .i64 0, .int .i64 0, .int .u64 0, .int .u64 0, .int .i64 0, .int .i64 0] 30)) (w.heap.size + 1 + 1) #[(.int .u64 0), (.int .u64 0), (.int .u64 0), (.int .u64 0), (.int .i64 0), (.int .i64 0), (.int .u64 0), (.int .u64 0), (.int .i64 0), (.int .i64 0)] 30) := (AtA.newb _ (by simp) _ _)
  have HG1 : Hid (Gr w (((w.alloc (.cells #[.int .u64 (iv atv), .int .u64 (iv atm), .int .u64 aul, .int .u64 auh, .int .i64 asl, .int .i64 ash, .int .u64 awl, .int .u64 awh, .int .i64 avl, .int .i64 avh] 30)).alloc (.cells #[.int .u64 (iv btv), .int .u64 (iv btm), .int .u64 bul, .int .u64 buh, .int .i64 bsl, .int .i64 bsh, .int .u64 bwl, .int .u64 bwh, .int .i64 bvl, .int .i64 bvh] 30)).alloc (.cells #[.int .u64 0, .int .u64 0, .int .u64 0, .int .u64 0, .int .i64 0, .int .i64 0, .int .u64 0, .int .u64 0, .int .i64 0, .int .i64 0] 30))) := (⟨by go_grown, by go_grown⟩ : Gr w _)
  go_upto_region 2 with (first | (go_at_call 51; refine (any_any _).mono ?_; rintro e w1 ⟨rfl, hg1⟩))
  have hsz : w.heap.size + 3 ≤ w1.heap.size := by
    have := hg1.below.size
    simp at this
    omega
  have HA2 : Hid (AtA (w1.alloc (.cells #[(.int .u64 (iv 0#64)), (.int .u64 (iv 18446744073709551615#64)), (.int .u64 0), (.int .u64 18446744073709551615), (.int .i64 (-9223372036854775808)), (.int .i64 9223372036854775807), (.int .u64 0), (.int .u64 4294967295), (.int .i64 (-2147483648)), (.int .i64 2147483647)] 30)) w.heap.size #[(.int .u64 (iv atv)), (.int .u64 (iv atm)), (.int .u64 aul), (.int .u64 auh), (.int .i64 asl), (.int .i64 ash), (.int .u64 awl), (.int .u64 awh), (.int .i64 avl), (.int .i64 avh)] 30) := (HA1.out.gr hg1).alloc _
  have HB2 : Hid (AtA (w1.alloc (.cells #[(.int .u64 (iv 0#64)), (.int .u64 (iv 18446744073709551615#64)), (.int .u64 0), (.int .u64 18446744073709551615), (.int .i64 (-9223372036854775808)), (.int .i64 9223372036854775807), (.int .u64 0), (.int .u64 4294967295), (.int .i64 (-2147483648)), (.int .i64 2147483647)] 30)) (w.heap.size + 1) #[(.int .u64 (iv btv)), (.int .u64 (iv btm)), (.int .u64 bul), (.int .u64 buh), (.int .i64 bsl), (.int .i64 bsh), (.int .u64 bwl), (.int .u64 bwh), (.int .i64 bvl), (.int .i64 bvh)] 30) := (HB1.out.gr hg1).alloc _
  have HR2 : Hid (AtA (w1.alloc (.cells #[(.int .u64 (iv 0#64)), (.int .u64 (iv 18446744073709551615#64)), (.int .u64 0), (.int .u64 18446744073709551615), (.int .i64 (-9223372036854775808)), (.int .i64 9223372036854775807), (.int .u64 0), (.int .u64 4294967295), (.int .i64 (-2147483648)), (.int .i64 2147483647)] 30)) (w.heap.size + 1 + 1) #[(.int .u64 0), (.int .u64 0), (.int .u64 0), (.int .u64 0), (.int .i64 0), (.int .i64 0), (.int .u64 0), (.int .u64 0), (.int .i64 0), (.int .i64 0)] 30) := (HR1.out.gr hg1).alloc _
  have HX2 : Hid (AtA (w1.alloc (.cells #[(.int .u64 (iv 0#64)), (.int .u64 (iv 18446744073709551615#64)), (.int .u64 0), (.int .u64 18446744073709551615), (.int .i64 (-9223372036854775808)), (.int .i64 9223372036854775807), (.int .u64 0), (.int .u64 4294967295), (.int .i64 (-2147483648)), (.int .i64 2147483647)] 30)) w1.heap.size #[(.int .u64 (iv 0#64)), (.int .u64 (iv 18446744073709551615#64)), (.int .u64 0), (.int .u64 18446744073709551615), (.int .i64 (-9223372036854775808)), (.int .i64 9223372036854775807), (.int .u64 0), (.int .u64 4294967295), (.int .i64 (-2147483648)), (.int .i64 2147483647)] 30) := AtA.newb _ rfl _ _
  have HG2 : Hid (Gr w (w1.alloc (.cells #[(.int .u64 (iv 0#64)), (.int .u64 (iv 18446744073709551615#64)), (.int .u64 0), (.int .u64 18446744073709551615), (.int .i64 (-9223372036854775808)), (.int .i64 9223372036854775807), (.int .u64 0), (.int .u64 4294967295), (.int .i64 (-2147483648)), (.int .i64 2147483647)] 30))) := (HG1.out.trans hg1).alloc _ _
  clear HA1 HB1 HR1 HG1
  clear hg1
  have k1 := HA2.out.cell 0
  have k2 := HA2.out.cell 1
  have k3 := HB2.out.cell 0
  have k4 := HB2.out.cell 1
  simp only [List.getElem?_toArray, List.getElem?_cons_zero, List.getElem?_cons_succ] at k1 k2 k3 k4
  go_upto_region 3 with (first | (go_at_call 193; refine (cv (Tn.and_any _ _ _ _ _)).mono ?_; rintro e w2 ⟨rfl, hg2⟩ ; have hx2 : Hid (AtA w2 w1.heap.size #[(.int .u64 (iv 0#64)), (.int .u64 (iv 18446744073709551615#64)), (.int .u64 0), (.int .u64 18446744073709551615), (.int .i64 (-9223372036854775808)), (.int .i64 9223372036854775807), (.int .u64 0), (.int .u64 4294967295), (.int .i64 (-2147483648)), (.int .i64 2147483647)] 30) := (HX2.out.gr hg2); have k5 := hx2.out.f 0; have k6 := hx2.out.cell 0; have k7 := hx2.out.f 1; have k8 := hx2.out.cell 1; simp only [List.getElem?_toArray, List.getElem?_cons_zero, List.getElem?_cons_succ] at k6 k8))
  clear k1 k2 k3 k4 k5 k6 k7 k8
  have HA3 : Hid (AtA w2 w.heap.size #[(.int .u64 (iv atv)), (.int .u64 (iv atm)), (.int .u64 aul), (.int .u64 auh), (.int .i64 asl), (.int .i64 ash), (.int .u64 awl), (.int .u64 awh), (.int .i64 avl), (.int .i64 avh)] 30) := (HA2.out.gr hg2)
  have HB3 : Hid (AtA w2 (w.heap.size + 1) #[(.int .u64 (iv btv)), (.int .u64 (iv btm)), (.int .u64 bul), (.int .u64 buh), (.int .i64 bsl), (.int .i64 bsh), (.int .u64 bwl), (.int .u64 bwh), (.int .i64 bvl), (.int .i64 bvh)] 30) := (HB2.out.gr hg2)
  have HR3 : Hid (AtA w2 (w.heap.size + 1 + 1) #[(.int .u64 0), (.int .u64 0), (.int .u64 0), (.int .u64 0), (.int .i64 0), (.int .i64 0), (.int .u64 0), (.int .u64 0), (.int .i64 0), (.int .i64 0)] 30) := (HR2.out.gr hg2)
  have HX3 : Hid (AtA w2 w1.heap.size #[(.int .u64 (iv 0#64)), (.int .u64 (iv 18446744073709551615#64)), (.int .u64 0), (.int .u64 18446744073709551615), (.int .i64 (-9223372036854775808)), (.int .i64 9223372036854775807), (.int .u64 0), (.int .u64 4294967295), (.int .i64 (-2147483648)), (.int .i64 2147483647)] 30) := (HX2.out.gr hg2)
  have HG3 : Hid (Gr w w2) := (HG2.out.trans hg2)
  clear HA2 HB2 HR2 HX2 HG2
  clear hx2 hg2
  have HA4 : Hid (AtA ((w2.setCell ⟨w1.heap.size, 0, none⟩ (.int .u64 (iv (atv &&& btv)))).setCell ⟨w1.heap.size, 1, none⟩ (.int .u64 (iv (Tn.andM atv atm btv btm)))) w.heap.size #[(.int .u64 (iv atv)), (.int .u64 (iv atm)), (.int .u64 aul), (.int .u64 auh), (.int .i64 asl), (.int .i64 ash), (.int .u64 awl), (.int .u64 awh), (.int .i64 avl), (.int .i64 avh)] 30) := ((HA3.out.other (by omega) (.int .u64 (iv (atv &&& btv)))).other (by omega) (.int .u64 (iv (Tn.andM atv atm btv btm))))
  have HB4 : Hid (AtA ((w2.setCell ⟨w1.heap.size, 0, none⟩ (.int .u64 (iv (atv &&& btv)))).setCell ⟨w1.heap.size, 1, none⟩ (.int .u64 (iv (Tn.andM atv atm btv btm)))) (w.heap.size + 1) #[(.int .u64 (iv btv)), (.int .u64 (iv btm)), (.int .u64 bul), (.int .u64 buh), (.int .i64 bsl), (.int .i64 bsh), (.int .u64 bwl), (.int .u64 bwh), (.int .i64 bvl), (.int .i64 bvh)] 30) := ((HB3.out.other (by omega) (.int .u64 (iv (atv &&& btv)))).other (by omega) (.int .u64 (iv (Tn.andM atv atm btv btm))))
  have HR4 : Hid (AtA ((w2.setCell ⟨w1.heap.size, 0, none⟩ (.int .u64 (iv (atv &&& btv)))).setCell ⟨w1.heap.size, 1, none⟩ (.int .u64 (iv (Tn.andM atv atm btv btm)))) (w.heap.size + 1 + 1) #[(.int .u64 0), (.int .u64 0), (.int .u64 0), (.int .u64 0), (.int .i64 0), (.int .i64 0), (.int .u64 0), (.int .u64 0), (.int .i64 0), (.int .i64 0)] 30) := ((HR3.out.other (by omega) (.int .u64 (iv (atv &&& btv)))).other (by omega) (.int .u64 (iv (Tn.andM atv atm btv btm))))
  have HX4 : Hid (AtA ((w2.setCell ⟨w1.heap.size, 0, none⟩ (.int .u64 (iv (atv &&& btv)))).setCell ⟨w1.heap.size, 1, none⟩ (.int .u64 (iv (Tn.andM atv atm btv btm)))) w1.heap.size #[(.int .u64 (iv (atv &&& btv))), (.int .u64 (iv (Tn.andM atv atm btv btm))), (.int .u64 0), (.int .u64 18446744073709551615), (.int .i64 (-9223372036854775808)), (.int .i64 9223372036854775807), (.int .u64 0), (.int .u64 4294967295), (.int .i64 (-2147483648)), (.int .i64 2147483647)] 30) := by have h := ((HX3.out.st 0 (.int .u64 (iv (atv &&& btv)))).st 1 (.int .u64 (iv (Tn.andM atv atm btv btm)))); simp only [List.setIfInBounds_toArray, List.set_cons_zero, List.set_cons_succ] at h; exact h
  have HG4 : Hid (Gr w ((w2.setCell ⟨w1.heap.size, 0, none⟩ (.int .u64 (iv (atv &&& btv)))).setCell ⟨w1.heap.size, 1, none⟩ (.int .u64 (iv (Tn.andM atv atm btv btm))))) := ((HG3.out.set (by omega) (.int .u64 (iv (atv &&& btv)))).set (by omega) (.int .u64 (iv (Tn.andM atv atm btv btm))))
  clear HA3 HB3 HR3 HX3 HG3
  have k9 := HA4.out.cell 3
  have k10 := HB4.out.cell 3
  simp only [List.getElem?_toArray, List.getElem?_cons_zero, List.getElem?_cons_succ] at k9 k10
  have k11 := HX4.out.f 3
  have k12 := HX4.out.cell 3
  simp only [List.getElem?_toArray, List.getElem?_cons_zero, List.getElem?_cons_succ] at k12
  go_upto_region 4 with fail
  all_goals first | omega | skip
  clear k9 k10 k11 k12
  have HA5 : Hid (AtA (((w2.setCell ⟨w1.heap.size, 0, none⟩ (.int .u64 (iv (atv &&& btv)))).setCell ⟨w1.heap.size, 1, none⟩ (.int .u64 (iv (Tn.andM atv atm btv btm)))).setCell ⟨w1.heap.size, 3, none⟩ (.int .u64 buh)) w.heap.size #[(.int .u64 (iv atv)), (.int .u64 (iv atm)), (.int .u64 aul), (.int .u64 auh), (.int .i64 asl), (.int .i64 ash), (.int .u64 awl), (.int .u64 awh), (.int .i64 avl), (.int .i64 avh)] 30) := (HA4.out.other (by omega) (.int .u64 buh))
  have HB5 : Hid (AtA (((w2.setCell ⟨w1.heap.size, 0, none⟩ (.int .u64 (iv (atv &&& btv)))).setCell ⟨w1.heap.size, 1, none⟩ (.int .u64 (iv (Tn.andM atv atm btv btm)))).setCell ⟨w1.heap.size, 3, none⟩ (.int .u64 buh)) (w.heap.size + 1) #[(.int .u64 (iv btv)), (.int .u64 (iv btm)), (.int .u64 bul), (.int .u64 buh), (.int .i64 bsl), (.int .i64 bsh), (.int .u64 bwl), (.int .u64 bwh), (.int .i64 bvl), (.int .i64 bvh)] 30) := (HB4.out.other (by omega) (.int .u64 buh))
  have HR5 : Hid (AtA (((w2.setCell ⟨w1.heap.size, 0, none⟩ (.int .u64 (iv (atv &&& btv)))).setCell ⟨w1.heap.size, 1, none⟩ (.int .u64 (iv (Tn.andM atv atm btv btm)))).setCell ⟨w1.heap.size, 3, none⟩ (.int .u64 buh)) (w.heap.size + 1 + 1) #[(.int .u64 0), (.int .u64 0), (.int .u64 0), (.int .u64 0), (.int .i64 0), (.int .i64 0), (.int .u64 0), (.int .u64 0), (.int .i64 0), (.int .i64 0)] 30) := (HR4.out.other (by omega) (.int .u64 buh))
  have HX5 : Hid (AtA (((w2.setCell ⟨w1.heap.size, 0, none⟩ (.int .u64 (iv (atv &&& btv)))).setCell ⟨w1.heap.size, 1, none⟩ (.int .u64 (iv (Tn.andM atv atm btv btm)))).setCell ⟨w1.heap.size, 3, none⟩ (.int .u64 buh)) w1.heap.size #[(.int .u64 (iv (atv &&& btv))), (.int .u64 (iv (Tn.andM atv atm btv btm))), (.int .u64 0), (.int .u64 buh), (.int .i64 (-9223372036854775808)), (.int .i64 9223372036854775807), (.int .u64 0), (.int .u64 4294967295), (.int .i64 (-2147483648)), (.int .i64 2147483647)] 30) := by have h := (HX4.out.st 3 (.int .u64 buh)); simp only [List.setIfInBounds_toArray, List.set_cons_zero, List.set_cons_succ] at h; exact h
  have HG5 : Hid (Gr w (((w2.setCell ⟨w1.heap.size, 0, none⟩ (.int .u64 (iv (atv &&& btv)))).setCell ⟨w1.heap.size, 1, none⟩ (.int .u64 (iv (Tn.andM atv atm btv btm)))).setCell ⟨w1.heap.size, 3, none⟩ (.int .u64 buh))) := (HG4.out.set (by omega) (.int .u64 buh))
  clear HA4 HB4 HR4 HX4 HG4
  have k13 := HA5.out.cell 7
  have k14 := HB5.out.cell 7
  simp only [List.getElem?_toArray, List.getElem?_cons_zero, List.getElem?_cons_succ] at k13 k14
  have k15 := HX5.out.f 7
  have k16 := HX5.out.cell 7
  simp only [List.getElem?_toArray, List.getElem?_cons_zero, List.getElem?_cons_succ] at k16
  go_upto_region 5 with fail
  all_goals first | omega | skip
  clear k13 k14 k15 k16
  have HA6 : Hid (AtA ((((w2.setCell ⟨w1.heap.size, 0, none⟩ (.int .u64 (iv (atv &&& btv)))).setCell ⟨w1.heap.size, 1, none⟩ (.int .u64 (iv (Tn.andM atv atm btv btm)))).setCell ⟨w1.heap.size, 3, none⟩ (.int .u64 buh)).setCell ⟨w1.heap.size, 7, none⟩ (.int .u64 awh)) w.heap.size #[(.int .u64 (iv atv)), (.int .u64 (iv atm)), (.int .u64 aul), (.int .u64 auh), (.int .i64 asl), (.int .i64 ash), (.int .u64 awl), (.int .u64 awh), (.int .i64 avl), (.int .i64 avh)] 30) := (HA5.out.other (by omega) (.int .u64 awh))
  have HB6 : Hid (AtA ((((w2.setCell ⟨w1.heap.size, 0, none⟩ (.int .u64 (iv (atv &&& btv)))).setCell ⟨w1.heap.size, 1, none⟩ (.int .u64 (iv (Tn.andM atv atm btv btm)))).setCell ⟨w1.heap.size, 3, none⟩ (.int .u64 buh)).setCell ⟨w1.heap.size, 7, none⟩ (.int .u64 awh)) (w.heap.size + 1) #[(.int .u64 (iv btv)), (.int .u64 (iv btm)), (.int .u64 bul), (.int .u64 buh), (.int .i64 bsl), (.int .i64 bsh), (.int .u64 bwl), (.int .u64 bwh), (.int .i64 bvl), (.int .i64 bvh)] 30) := (HB5.out.other (by omega) (.int .u64 awh))
  have HR6 : Hid (AtA ((((w2.setCell ⟨w1.heap.size, 0, none⟩ (.int .u64 (iv (atv &&& btv)))).setCell ⟨w1.heap.size, 1, none⟩ (.int .u64 (iv (Tn.andM atv atm btv btm)))).setCell ⟨w1.heap.size, 3, none⟩ (.int .u64 buh)).setCell ⟨w1.heap.size, 7, none⟩ (.int .u64 awh)) (w.heap.size + 1 + 1) #[(.int .u64 0), (.int .u64 0), (.int .u64 0), (.int .u64 0), (.int .i64 0), (.int .i64 0), (.int .u64 0), (.int .u64 0), (.int .i64 0), (.int .i64 0)] 30) := (HR5.out.other (by omega) (.int .u64 awh))
  have HX6 : Hid (AtA ((((w2.setCell ⟨w1.heap.size, 0, none⟩ (.int .u64 (iv (atv &&& btv)))).setCell ⟨w1.heap.size, 1, none⟩ (.int .u64 (iv (Tn.andM atv atm btv btm)))).setCell ⟨w1.heap.size, 3, none⟩ (.int .u64 buh)).setCell ⟨w1.heap.size, 7, none⟩ (.int .u64 awh)) w1.heap.size #[(.int .u64 (iv (atv &&& btv))), (.int .u64 (iv (Tn.andM atv atm btv btm))), (.int .u64 0), (.int .u64 buh), (.int .i64 (-9223372036854775808)), (.int .i64 9223372036854775807), (.int .u64 0), (.int .u64 awh), (.int .i64 (-2147483648)), (.int .i64 2147483647)] 30) := by have h := (HX5.out.st 7 (.int .u64 awh)); simp only [List.setIfInBounds_toArray, List.set_cons_zero, List.set_cons_succ] at h; exact h
  have HG6 : Hid (Gr w ((((w2.setCell ⟨w1.heap.size, 0, none⟩ (.int .u64 (iv (atv &&& btv)))).setCell ⟨w1.heap.size, 1, none⟩ (.int .u64 (iv (Tn.andM atv atm btv btm)))).setCell ⟨w1.heap.size, 3, none⟩ (.int .u64 buh)).setCell ⟨w1.heap.size, 7, none⟩ (.int .u64 awh))) := (HG5.out.set (by omega) (.int .u64 awh))
  clear HA5 HB5 HR5 HX5 HG5
  have k17 := HX6.out.cell 0
  have k18 := HX6.out.cell 1
  have k19 := HX6.out.cell 2
  have k20 := HX6.out.cell 3
  have k21 := HX6.out.cell 4
  have k22 := HX6.out.cell 5
  have k23 := HX6.out.cell 6
  have k24 := HX6.out.cell 7
  have k25 := HX6.out.cell 8
  have k26 := HX6.out.cell 9
  simp only [List.getElem?_toArray, List.getElem?_cons_zero, List.getElem?_cons_succ] at k17 k18 k19 k20 k21 k22 k23 k24 k25 k26
  go_wp2_with (first
    | (go_at_call 11; refine (sync_q _ _ _ _ _ _ _ _ _ _ r HR.out inU_z (by assumption) inS_z inS_f _).mono ?_; rintro e w3 ⟨rfl, hg⟩; have hr : Hid (AtA w3 (w.heap.size + 1 + 1) _ 30) := HR6.out.gr hg; have hG : Hid (Gr w w3) := HG6.out.trans hg; clear hg
       have f0 := (hr.out).f 0
       have f1 := (hr.out).f 1
       have f2 := (hr.out).f 2
       have f3 := (hr.out).f 3
       have f4 := (hr.out).f 4
       have f5 := (hr.out).f 5
       have f6 := (hr.out).f 6
       have f7 := (hr.out).f 7
       have f8 := (hr.out).f 8
       have f9 := (hr.out).f 9
       have d0 := (hr.out).cell 0
       have d1 := (hr.out).cell 1
       have d2 := (hr.out).cell 2
       have d3 := (hr.out).cell 3
       have d4 := (hr.out).cell 4
       have d5 := (hr.out).cell 5
       have d6 := (hr.out).cell 6
       have d7 := (hr.out).cell 7
       have d8 := (hr.out).cell 8
       have d9 := (hr.out).cell 9
       simp only [List.getElem?_toArray, List.getElem?_cons_zero, List.getElem?_cons_succ] at d0 d1 d2 d3 d4 d5 d6 d7 d8 d9
       have hz := (((((((((((hr.out).st 0 (.int .u64 (iv r.tv))).st 1 (.int .u64 (iv r.tm))).st 2 (.int .u64 r.ul)).st 3 (.int .u64 r.uh)).st 4 (.int .i64 r.sl)).st 5 (.int .i64 r.sh)).st 6 (.int .u64 r.wl)).st 7 (.int .u64 r.wh)).st 8 (.int .i64 r.vl)).st 9 (.int .i64 r.vh))
       simp only [List.setIfInBounds_toArray, List.set_cons_zero, List.set_cons_succ] at hz
       have e0 := hz.cell 0
       have e1 := hz.cell 1
       have e2 := hz.cell 2
       have e3 := hz.cell 3
       have e4 := hz.cell 4
       have e5 := hz.cell 5
       have e6 := hz.cell 6
       have e7 := hz.cell 7
       have e8 := hz.cell 8
       have e9 := hz.cell 9
       simp only [List.getElem?_toArray, List.getElem?_cons_zero, List.getElem?_cons_succ] at e0 e1 e2 e3 e4 e5 e6 e7 e8 e9
       clear hz))
  refine bodyPost_ret (by simp [results, Tryz.results130, go_sem, e0, e1, e2, e3, e4, e5, e6, e7, e8, e9]; try rfl) rfl ?_
  exact ⟨rfl, ((((((((((hG.out.set (by omega) _).set (by omega) _).set (by omega) _).set (by omega) _).set (by omega) _).set (by omega) _).set (by omega) _).set (by omega) _).set (by omega) _).set (by omega) _)⟩
set_option maxHeartbeats 4000000 in
theorem anded_3 (atv atm : BitVec 64) (aul auh asl ash awl awh avl avh : Int) (btv btm : BitVec 64) (bul buh bsl bsh bwl bwh bvl bvh : Int) (r : Bd) (hr : syncM ⟨(atv &&& btv), (Tn.andM atv atm btv btm), 0, buh, (-9223372036854775808), 9223372036854775807, 0, bwh, (-2147483648), 2147483647⟩ = r) (h1 : buh < auh) (h2 : bwh < awh) (hauh : InU auh) (hbuh : InU buh) (w : World) : Calls Tryz.prog 130 #[.agg #[.int .u64 (iv atv), .int .u64 (iv atm), .int .u64 aul, .int .u64 auh, .int .i64 asl, .int .i64 ash, .int .u64 awl, .int .u64 awh, .int .i64 avl, .int .i64 avh], .agg #[.int .u64 (iv btv), .int .u64 (iv btm), .int .u64 bul, .int .u64 buh, .int .i64 bsl, .int .i64 bsh, .int .u64 bwl, .int .u64 bwh, .int .i64 bvl, .int .i64 bvh]] w fun e w' => e = .returned (.agg #[.int .u64 (iv r.tv), .int .u64 (iv r.tm), .int .u64 r.ul, .int .u64 r.uh, .int .i64 r.sl, .int .i64 r.sh, .int .u64 r.wl, .int .u64 r.wh, .int .i64 r.vl, .int .i64 r.vh]) ∧ Gr w w' := by
  have HR : Hid (syncM ⟨(atv &&& btv), (Tn.andM atv atm btv btm), 0, buh, (-9223372036854775808), 9223372036854775807, 0, bwh, (-2147483648), 2147483647⟩ = r) := hr
  clear hr
  go_enter Tryz.func130, Tryz.ntmps130
  go_upto_region 1 with fail
  have HA1 : Hid (AtA (((w.alloc (.cells #[.int .u64 (iv atv), .int .u64 (iv atm), .int .u64 aul, .int .u64 auh, .int .i64 asl, .int .i64 ash, .int .u64 awl, .int .u64 awh, .int .i64 avl, .int .i64 avh] 30)).alloc (.cells #[.int .u64 (iv btv), .int .u64 (iv btm), .int .u64 bul, .int .u64 buh, .int .i64 bsl, .int .i64 bsh, .int .u64 bwl, .int .u64 bwh, .int .i64 bvl, .int .i64 bvh] 30)).alloc (.cells #[.int .u64 0, .int .u64 0, .int .u64 0, .int .u64 0, .int .i64 0, .int .i64 0, .int .u64 0, .int .u64 0, .int .i64 0, .int .i64 0] 30)) w.heap.size #[(.int .u64 (iv atv)), (.int .u64 (iv atm)), (.int .u64 aul), (.int .u64 auh), (.int .i64 asl), (.int .i64 ash), (.int .u64 awl), (.int .u64 awh), (.int .i64 avl), (.int .i64 avh)] 30) := (((AtA.newb _ (by simp) _ _).alloc _).alloc _)
  have HB1 : Hid (AtA (((w.alloc (.cells #[.int .u64 (iv atv), .int .u64 (iv atm), .int .u64 aul, .int .u64 auh, .int .i64 asl, .int .i64 ash, .int .u64 awl, .int .u64 awh, .int .i64 avl, .int .i64 avh] 30)).alloc (.cells #[.int .u64 (iv btv), .int .u64 (iv btm), .int .u64 bul, .int .u64 buh, .int .i64 bsl, .int .i64 bsh, .int .u64 bwl, .int .u64 bwh, .int .i64 bvl, .int .i64 bvh] 30)).alloc (.cells #[.int .u64 0, .int .u64 0, .int .u64 0, .int .u64 0, .int .i64 0, .int .i64 0, .int .u64 0, .int .u64 0, .int .i64 0, .int .i64 0] 30)) (w.heap.size + 1) #[(.int .u64 (iv btv)), (.int .u64 (iv btm)), (.int .u64 bul), (.int .u64 buh), (.int .i64 bsl), (.int .i64 bsh), (.int .u64 bwl), (.int .u64 bwh), (.int .i64 bvl), (.int .i64 bvh)] 30) := ((AtA.newb _ (by simp) _ _).alloc _)
  have HR1 : Hid (AtA (((w.alloc (.cells #[.int .u64 (iv atv), .int .u64 (iv atm), .int .u64 aul, .int .u64 auh, .int .i64 asl, .int .i64 ash, .int .u64 awl, .int .u64 awh, .int .i64 avl, .int .i64 avh] 30)).alloc (.cells #[.int .u64 (iv btv), .int .u64 (iv btm), .int .u64 bul, .int .u64 buh, .int .i64 bsl, .int .i64 bsh, .int .u64 bwl, .int .u64 bwh, .int .i64 bvl, .int .i64 bvh] 30)).alloc (.cells #[.int .u64 0, .int .u64 0, .int .u64 0, .int .u64 0, .int .i64 0, .int .i64 0, .int .u64 0, .int .u64 0, .int .i64 0, .int .i64 0] 30)) (w.heap.size + 1 + 1) #[(.int .u64 0), (.int .u64 0), (.int .u64 0), (.int .u64 0), (.int .i64 0), (.int .i64 0), (.int .u64 0), (.int .u64 0), (.int .i64 0), (.int .i64 0)] 30) := (AtA.newb _ (by simp) _ _)
  have HG1 : Hid (Gr w (((w.alloc (.cells #[.int .u64 (iv atv), .int .u64 (iv atm), .int .u64 aul, .int .u64 auh, .int .i64 asl, .int .i64 ash, .int .u64 awl, .int .u64 awh, .int .i64 avl, .int .i64 avh] 30)).alloc (.cells #[.int .u64 (iv btv), .int .u64 (iv btm), .int .u64 bul, .int .u64 buh, .int .i64 bsl, .int .i64 bsh, .int .u64 bwl, .int .u64 bwh, .int .i64 bvl, .int .i64 bvh] 30)).alloc (.cells #[.int .u64 0, .int .u64 0, .int .u64 0, .int .u64 0, .int .i64 0, .int .i64 0, .int .u64 0, .int .u64 0, .int .i64 0, .int .i64 0] 30))) := (⟨by go_grown, by go_grown⟩ : Gr w _)
  go_upto_region 2 with (first | (go_at_call 51; refine (any_any _).mono ?_; rintro e w1 ⟨rfl, hg1⟩))
  have hsz : w.heap.size + 3 ≤ w1.heap.size := by
    have := hg1.below.size
    simp at this
    omega
  have HA2 : Hid (AtA (w1.alloc (.cells #[(.int .u64 (iv 0#64)), (.int .u64 (iv 18446744073709551615#64)), (.int .u64 0), (.int .u64 18446744073709551615), (.int .i64 (-9223372036854775808)), (.int .i64 9223372036854775807), (.int .u64 0), (.int .u64 4294967295), (.int .i64 (-2147483648)), (.int .i64 2147483647)] 30)) w.heap.size #[(.int .u64 (iv atv)), (.int .u64 (iv atm)), (.int .u64 aul), (.int .u64 auh), (.int .i64 asl), (.int .i64 ash), (.int .u64 awl), (.int .u64 awh), (.int .i64 avl), (.int .i64 avh)] 30) := (HA1.out.gr hg1).alloc _
  have HB2 : Hid (AtA (w1.alloc (.cells #[(.int .u64 (iv 0#64)), (.int .u64 (iv 18446744073709551615#64)), (.int .u64 0), (.int .u64 18446744073709551615), (.int .i64 (-9223372036854775808)), (.int .i64 9223372036854775807), (.int .u64 0), (.int .u64 4294967295), (.int .i64 (-2147483648)), (.int .i64 2147483647)] 30)) (w.heap.size + 1) #[(.int .u64 (iv btv)), (.int .u64 (iv btm)), (.int .u64 bul), (.int .u64 buh), (.int .i64 bsl), (.int .i64 bsh), (.int .u64 bwl), (.int .u64 bwh), (.int .i64 bvl), (.int .i64 bvh)] 30) := (HB1.out.gr hg1).alloc _
  have HR2 : Hid (AtA (w1.alloc (.cells #[(.int .u64 (iv 0#64)), (.int .u64 (iv 18446744073709551615#64)), (.int .u64 0), (.int .u64 18446744073709551615), (.int .i64 (-9223372036854775808)), (.int .i64 9223372036854775807), (.int .u64 0), (.int .u64 4294967295), (.int .i64 (-2147483648)), (.int .i64 2147483647)] 30)) (w.heap.size + 1 + 1) #[(.int .u64 0), (.int .u64 0), (.int .u64 0), (.int .u64 0), (.int .i64 0), (.int .i64 0), (.int .u64 0), (.int .u64 0), (.int .i64 0), (.int .i64 0)] 30) := (HR1.out.gr hg1).alloc _
  have HX2 : Hid (AtA (w1.alloc (.cells #[(.int .u64 (iv 0#64)), (.int .u64 (iv 18446744073709551615#64)), (.int .u64 0), (.int .u64 18446744073709551615), (.int .i64 (-9223372036854775808)), (.int .i64 9223372036854775807), (.int .u64 0), (.int .u64 4294967295), (.int .i64 (-2147483648)), (.int .i64 2147483647)] 30)) w1.heap.size #[(.int .u64 (iv 0#64)), (.int .u64 (iv 18446744073709551615#64)), (.int .u64 0), (.int .u64 18446744073709551615), (.int .i64 (-9223372036854775808)), (.int .i64 9223372036854775807), (.int .u64 0), (.int .u64 4294967295), (.int .i64 (-2147483648)), (.int .i64 2147483647)] 30) := AtA.newb _ rfl _ _
  have HG2 : Hid (Gr w (w1.alloc (.cells #[(.int .u64 (iv 0#64)), (.int .u64 (iv 18446744073709551615#64)), (.int .u64 0), (.int .u64 18446744073709551615), (.int .i64 (-9223372036854775808)), (.int .i64 9223372036854775807), (.int .u64 0), (.int .u64 4294967295), (.int .i64 (-2147483648)), (.int .i64 2147483647)] 30))) := (HG1.out.trans hg1).alloc _ _
  clear HA1 HB1 HR1 HG1
  clear hg1
  have k1 := HA2.out.cell 0
  have k2 := HA2.out.cell 1
  have k3 := HB2.out.cell 0
  have k4 := HB2.out.cell 1
  simp only [List.getElem?_toArray, List.getElem?_cons_zero, List.getElem?_cons_succ] at k1 k2 k3 k4
  go_upto_region 3 with (first | (go_at_call 193; refine (cv (Tn.and_any _ _ _ _ _)).mono ?_; rintro e w2 ⟨rfl, hg2⟩ ; have hx2 : Hid (AtA w2 w1.heap.size #[(.int .u64 (iv 0#64)), (.int .u64 (iv 18446744073709551615#64)), (.int .u64 0), (.int .u64 18446744073709551615), (.int .i64 (-9223372036854775808)), (.int .i64 9223372036854775807), (.int .u64 0), (.int .u64 4294967295), (.int .i64 (-2147483648)), (.int .i64 2147483647)] 30) := (HX2.out.gr hg2); have k5 := hx2.out.f 0; have k6 := hx2.out.cell 0; have k7 := hx2.out.f 1; have k8 := hx2.out.cell 1; simp only [List.getElem?_toArray, List.getElem?_cons_zero, List.getElem?_cons_succ] at k6 k8))
  clear k1 k2 k3 k4 k5 k6 k7 k8
  have HA3 : Hid (AtA w2 w.heap.size #[(.int .u64 (iv atv)), (.int .u64 (iv atm)), (.int .u64 aul), (.int .u64 auh), (.int .i64 asl), (.int .i64 ash), (.int .u64 awl), (.int .u64 awh), (.int .i64 avl), (.int .i64 avh)] 30) := (HA2.out.gr hg2)
  have HB3 : Hid (AtA w2 (w.heap.size + 1) #[(.int .u64 (iv btv)), (.int .u64 (iv btm)), (.int .u64 bul), (.int .u64 buh), (.int .i64 bsl), (.int .i64 bsh), (.int .u64 bwl), (.int .u64 bwh), (.int .i64 bvl), (.int .i64 bvh)] 30) := (HB2.out.gr hg2)
  have HR3 : Hid (AtA w2 (w.heap.size + 1 + 1) #[(.int .u64 0), (.int .u64 0), (.int .u64 0), (.int .u64 0), (.int .i64 0), (.int .i64 0), (.int .u64 0), (.int .u64 0), (.int .i64 0), (.int .i64 0)] 30) := (HR2.out.gr hg2)
  have HX3 : Hid (AtA w2 w1.heap.size #[(.int .u64 (iv 0#64)), (.int .u64 (iv 18446744073709551615#64)), (.int .u64 0), (.int .u64 18446744073709551615), (.int .i64 (-9223372036854775808)), (.int .i64 9223372036854775807), (.int .u64 0), (.int .u64 4294967295), (.int .i64 (-2147483648)), (.int .i64 2147483647)] 30) := (HX2.out.gr hg2)
  have HG3 : Hid (Gr w w2) := (HG2.out.trans hg2)
  clear HA2 HB2 HR2 HX2 HG2
  clear hx2 hg2
  have HA4 : Hid (AtA ((w2.setCell ⟨w1.heap.size, 0, none⟩ (.int .u64 (iv (atv &&& btv)))).setCell ⟨w1.heap.size, 1, none⟩ (.int .u64 (iv (Tn.andM atv atm btv btm)))) w.heap.size #[(.int .u64 (iv atv)), (.int .u64 (iv atm)), (.int .u64 aul), (.int .u64 auh), (.int .i64 asl), (.int .i64 ash), (.int .u64 awl), (.int .u64 awh), (.int .i64 avl), (.int .i64 avh)] 30) := ((HA3.out.other (by omega) (.int .u64 (iv (atv &&& btv)))).other (by omega) (.int .u64 (iv (Tn.andM atv atm btv btm))))
  have HB4 : Hid (AtA ((w2.setCell ⟨w1.heap.size, 0, none⟩ (.int .u64 (iv (atv &&& btv)))).setCell ⟨w1.heap.size, 1, none⟩ (.int .u64 (iv (Tn.andM atv atm btv btm)))) (w.heap.size + 1) #[(.int .u64 (iv btv)), (.int .u64 (iv btm)), (.int .u64 bul), (.int .u64 buh), (.int .i64 bsl), (.int .i64 bsh), (.int .u64 bwl), (.int .u64 bwh), (.int .i64 bvl), (.int .i64 bvh)] 30) := ((HB3.out.other (by omega) (.int .u64 (iv (atv &&& btv)))).other (by omega) (.int .u64 (iv (Tn.andM atv atm btv btm))))
  have HR4 : Hid (AtA ((w2.setCell ⟨w1.heap.size, 0, none⟩ (.int .u64 (iv (atv &&& btv)))).setCell ⟨w1.heap.size, 1, none⟩ (.int .u64 (iv (Tn.andM atv atm btv btm)))) (w.heap.size + 1 + 1) #[(.int .u64 0), (.int .u64 0), (.int .u64 0), (.int .u64 0), (.int .i64 0), (.int .i64 0), (.int .u64 0), (.int .u64 0), (.int .i64 0), (.int .i64 0)] 30) := ((HR3.out.other (by omega) (.int .u64 (iv (atv &&& btv)))).other (by omega) (.int .u64 (iv (Tn.andM atv atm btv btm))))
  have HX4 : Hid (AtA ((w2.setCell ⟨w1.heap.size, 0, none⟩ (.int .u64 (iv (atv &&& btv)))).setCell ⟨w1.heap.size, 1, none⟩ (.int .u64 (iv (Tn.andM atv atm btv btm)))) w1.heap.size #[(.int .u64 (iv (atv &&& btv))), (.int .u64 (iv (Tn.andM atv atm btv btm))), (.int .u64 0), (.int .u64 18446744073709551615), (.int .i64 (-9223372036854775808)), (.int .i64 9223372036854775807), (.int .u64 0), (.int .u64 4294967295), (.int .i64 (-2147483648)), (.int .i64 2147483647)] 30) := by have h := ((HX3.out.st 0 (.int .u64 (iv (atv &&& btv)))).st 1 (.int .u64 (iv (Tn.andM atv atm btv btm)))); simp only [List.setIfInBounds_toArray, List.set_cons_zero, List.set_cons_succ] at h; exact h
  have HG4 : Hid (Gr w ((w2.setCell ⟨w1.heap.size, 0, none⟩ (.int .u64 (iv (atv &&& btv)))).setCell ⟨w1.heap.size, 1, none⟩ (.int .u64 (iv (Tn.andM atv atm btv btm))))) := ((HG3.out.set (by omega) (.int .u64 (iv (atv &&& btv)))).set (by omega) (.int .u64 (iv (Tn.andM atv atm btv btm))))
  clear HA3 HB3 HR3 HX3 HG3
  have k9 := HA4.out.cell 3
  have k10 := HB4.out.cell 3
  simp only [List.getElem?_toArray, List.getElem?_cons_zero, List.getElem?_cons_succ] at k9 k10
  have k11 := HX4.out.f 3
  have k12 := HX4.out.cell 3
  simp only [List.getElem?_toArray, List.getElem?_cons_zero, List.getElem?_cons_succ] at k12
  go_upto_region 4 with fail
  all_goals first | omega | skip
  clear k9 k10 k11 k12
  have HA5 : Hid (AtA (((w2.setCell ⟨w1.heap.size, 0, none⟩ (.int .u64 (iv (atv &&& btv)))).setCell ⟨w1.heap.size, 1, none⟩ (.int .u64 (iv (Tn.andM atv atm btv btm)))).setCell ⟨w1.heap.size, 3, none⟩ (.int .u64 buh)) w.heap.size #[(.int .u64 (iv atv)), (.int .u64 (iv atm)), (.int .u64 aul), (.int .u64 auh), (.int .i64 asl), (.int .i64 ash), (.int .u64 awl), (.int .u64 awh), (.int .i64 avl), (.int .i64 avh)] 30) := (HA4.out.other (by omega) (.int .u64 buh))
  have HB5 : Hid (AtA (((w2.setCell ⟨w1.heap.size, 0, none⟩ (.int .u64 (iv (atv &&& btv)))).setCell ⟨w1.heap.size, 1, none⟩ (.int .u64 (iv (Tn.andM atv atm btv btm)))).setCell ⟨w1.heap.size, 3, none⟩ (.int .u64 buh)) (w.heap.size + 1) #[(.int .u64 (iv btv)), (.int .u64 (iv btm)), (.int .u64 bul), (.int .u64 buh), (.int .i64 bsl), (.int .i64 bsh), (.int .u64 bwl), (.int .u64 bwh), (.int .i64 bvl), (.int .i64 bvh)] 30) := (HB4.out.other (by omega) (.int .u64 buh))
  have HR5 : Hid (AtA (((w2.setCell ⟨w1.heap.size, 0, none⟩ (.int .u64 (iv (atv &&& btv)))).setCell ⟨w1.heap.size, 1, none⟩ (.int .u64 (iv (Tn.andM atv atm btv btm)))).setCell ⟨w1.heap.size, 3, none⟩ (.int .u64 buh)) (w.heap.size + 1 + 1) #[(.int .u64 0), (.int .u64 0), (.int .u64 0), (.int .u64 0), (.int .i64 0), (.int .i64 0), (.int .u64 0), (.int .u64 0), (.int .i64 0), (.int .i64 0)] 30) := (HR4.out.other (by omega) (.int .u64 buh))
  have HX5 : Hid (AtA (((w2.setCell ⟨w1.heap.size, 0, none⟩ (.int .u64 (iv (atv &&& btv)))).setCell ⟨w1.heap.size, 1, none⟩ (.int .u64 (iv (Tn.andM atv atm btv btm)))).setCell ⟨w1.heap.size, 3, none⟩ (.int .u64 buh)) w1.heap.size #[(.int .u64 (iv (atv &&& btv))), (.int .u64 (iv (Tn.andM atv atm btv btm))), (.int .u64 0), (.int .u64 buh), (.int .i64 (-9223372036854775808)), (.int .i64 9223372036854775807), (.int .u64 0), (.int .u64 4294967295), (.int .i64 (-2147483648)), (.int .i64 2147483647)] 30) := by have h := (HX4.out.st 3 (.int .u64 buh)); simp only [List.setIfInBounds_toArray, List.set_cons_zero, List.set_cons_succ] at h; exact h
  have HG5 : Hid (Gr w (((w2.setCell ⟨w1.heap.size, 0, none⟩ (.int .u64 (iv (atv &&& btv)))).setCell ⟨w1.heap.size, 1, none⟩ (.int .u64 (iv (Tn.andM atv atm btv btm)))).setCell ⟨w1.heap.size, 3, none⟩ (.int .u64 buh))) := (HG4.out.set (by omega) (.int .u64 buh))
  clear HA4 HB4 HR4 HX4 HG4
  have k13 := HA5.out.cell 7
  have k14 := HB5.out.cell 7
  simp only [List.getElem?_toArray, List.getElem?_cons_zero, List.getElem?_cons_succ] at k13 k14
  have k15 := HX5.out.f 7
  have k16 := HX5.out.cell 7
  simp only [List.getElem?_toArray, List.getElem?_cons_zero, List.getElem?_cons_succ] at k16
  go_upto_region 5 with fail
  all_goals first | omega | skip
  clear k13 k14 k15 k16
  have HA6 : Hid (AtA ((((w2.setCell ⟨w1.heap.size, 0, none⟩ (.int .u64 (iv (atv &&& btv)))).setCell ⟨w1.heap.size, 1, none⟩ (.int .u64 (iv (Tn.andM atv atm btv btm)))).setCell ⟨w1.heap.size, 3, none⟩ (.int .u64 buh)).setCell ⟨w1.heap.size, 7, none⟩ (.int .u64 bwh)) w.heap.size #[(.int .u64 (iv atv)), (.int .u64 (iv atm)), (.int .u64 aul), (.int .u64 auh), (.int .i64 asl), (.int .i64 ash), (.int .u64 awl), (.int .u64 awh), (.int .i64 avl), (.int .i64 avh)] 30) := (HA5.out.other (by omega) (.int .u64 bwh))
  have HB6 : Hid (AtA ((((w2.setCell ⟨w1.heap.size, 0, none⟩ (.int .u64 (iv (atv &&& btv)))).setCell ⟨w1.heap.size, 1, none⟩ (.int .u64 (iv (Tn.andM atv atm btv btm)))).setCell ⟨w1.heap.size, 3, none⟩ (.int .u64 buh)).setCell ⟨w1.heap.size, 7, none⟩ (.int .u64 bwh)) (w.heap.size + 1) #[(.int .u64 (iv btv)), (.int .u64 (iv btm)), (.int .u64 bul), (.int .u64 buh), (.int .i64 bsl), (.int .i64 bsh), (.int .u64 bwl), (.int .u64 bwh), (.int .i64 bvl), (.int .i64 bvh)] 30) := (HB5.out.other (by omega) (.int .u64 bwh))
  have HR6 : Hid (AtA ((((w2.setCell ⟨w1.heap.size, 0, none⟩ (.int .u64 (iv (atv &&& btv)))).setCell ⟨w1.heap.size, 1, none⟩ (.int .u64 (iv (Tn.andM atv atm btv btm)))).setCell ⟨w1.heap.size, 3, none⟩ (.int .u64 buh)).setCell ⟨w1.heap.size, 7, none⟩ (.int .u64 bwh)) (w.heap.size + 1 + 1) #[(.int .u64 0), (.int .u64 0), (.int .u64 0), (.int .u64 0), (.int .i64 0), (.int .i64 0), (.int .u64 0), (.int .u64 0), (.int .i64 0), (.int .i64 0)] 30) := (HR5.out.other (by omega) (.int .u64 bwh))
  have HX6 : Hid (AtA ((((w2.setCell ⟨w1.heap.size, 0, none⟩ (.int .u64 (iv (atv &&& btv)))).setCell ⟨w1.heap.size, 1, none⟩ (.int .u64 (iv (Tn.andM atv atm btv btm)))).setCell ⟨w1.heap.size, 3, none⟩ (.int .u64 buh)).setCell ⟨w1.heap.size, 7, none⟩ (.int .u64 bwh)) w1.heap.size #[(.int .u64 (iv (atv &&& btv))), (.int .u64 (iv (Tn.andM atv atm btv btm))), (.int .u64 0), (.int .u64 buh), (.int .i64 (-9223372036854775808)), (.int .i64 9223372036854775807), (.int .u64 0), (.int .u64 bwh), (.int .i64 (-2147483648)), (.int .i64 2147483647)] 30) := by have h := (HX5.out.st 7 (.int .u64 bwh)); simp only [List.setIfInBounds_toArray, List.set_cons_zero, List.set_cons_succ] at h; exact h
  have HG6 : Hid (Gr w ((((w2.setCell ⟨w1.heap.size, 0, none⟩ (.int .u64 (iv (atv &&& btv)))).setCell ⟨w1.heap.size, 1, none⟩ (.int .u64 (iv (Tn.andM atv atm btv btm)))).setCell ⟨w1.heap.size, 3, none⟩ (.int .u64 buh)).setCell ⟨w1.heap.size, 7, none⟩ (.int .u64 bwh))) := (HG5.out.set (by omega) (.int .u64 bwh))
  clear HA5 HB5 HR5 HX5 HG5
  have k17 := HX6.out.cell 0
  have k18 := HX6.out.cell 1
  have k19 := HX6.out.cell 2
  have k20 := HX6.out.cell 3
  have k21 := HX6.out.cell 4
  have k22 := HX6.out.cell 5
  have k23 := HX6.out.cell 6
  have k24 := HX6.out.cell 7
  have k25 := HX6.out.cell 8
  have k26 := HX6.out.cell 9
  simp only [List.getElem?_toArray, List.getElem?_cons_zero, List.getElem?_cons_succ] at k17 k18 k19 k20 k21 k22 k23 k24 k25 k26
  go_wp2_with (first
    | (go_at_call 11; refine (sync_q _ _ _ _ _ _ _ _ _ _ r HR.out inU_z (by assumption) inS_z inS_f _).mono ?_; rintro e w3 ⟨rfl, hg⟩; have hr : Hid (AtA w3 (w.heap.size + 1 + 1) _ 30) := HR6.out.gr hg; have hG : Hid (Gr w w3) := HG6.out.trans hg; clear hg
       have f0 := (hr.out).f 0
       have f1 := (hr.out).f 1
       have f2 := (hr.out).f 2
       have f3 := (hr.out).f 3
       have f4 := (hr.out).f 4
       have f5 := (hr.out).f 5
       have f6 := (hr.out).f 6
       have f7 := (hr.out).f 7
       have f8 := (hr.out).f 8
       have f9 := (hr.out).f 9
       have d0 := (hr.out).cell 0
       have d1 := (hr.out).cell 1
       have d2 := (hr.out).cell 2
       have d3 := (hr.out).cell 3
       have d4 := (hr.out).cell 4
       have d5 := (hr.out).cell 5
       have d6 := (hr.out).cell 6
       have d7 := (hr.out).cell 7
       have d8 := (hr.out).cell 8
       have d9 := (hr.out).cell 9
       simp only [List.getElem?_toArray, List.getElem?_cons_zero, List.getElem?_cons_succ] at d0 d1 d2 d3 d4 d5 d6 d7 d8 d9
       have hz := (((((((((((hr.out).st 0 (.int .u64 (iv r.tv))).st 1 (.int .u64 (iv r.tm))).st 2 (.int .u64 r.ul)).st 3 (.int .u64 r.uh)).st 4 (.int .i64 r.sl)).st 5 (.int .i64 r.sh)).st 6 (.int .u64 r.wl)).st 7 (.int .u64 r.wh)).st 8 (.int .i64 r.vl)).st 9 (.int .i64 r.vh))
       simp only [List.setIfInBounds_toArray, List.set_cons_zero, List.set_cons_succ] at hz
       have e0 := hz.cell 0
       have e1 := hz.cell 1
       have e2 := hz.cell 2
       have e3 := hz.cell 3
       have e4 := hz.cell 4
       have e5 := hz.cell 5
       have e6 := hz.cell 6
       have e7 := hz.cell 7
       have e8 := hz.cell 8
       have e9 := hz.cell 9
       simp only [List.getElem?_toArray, List.getElem?_cons_zero, List.getElem?_cons_succ] at e0 e1 e2 e3 e4 e5 e6 e7 e8 e9
       clear hz))
  refine bodyPost_ret (by simp [results, Tryz.results130, go_sem, e0, e1, e2, e3, e4, e5, e6, e7, e8, e9]; try rfl) rfl ?_
  exact ⟨rfl, ((((((((((hG.out.set (by omega) _).set (by omega) _).set (by omega) _).set (by omega) _).set (by omega) _).set (by omega) _).set (by omega) _).set (by omega) _).set (by omega) _).set (by omega) _)⟩
theorem anded_any (atv atm : BitVec 64) (aul auh asl ash awl awh avl avh : Int) (btv btm : BitVec 64) (bul buh bsl bsh bwl bwh bvl bvh : Int) (r : Bd) (hr : syncM ⟨atv &&& btv, Tn.andM atv atm btv btm, 0, min auh buh, -9223372036854775808, 9223372036854775807, 0, min awh bwh, -2147483648, 2147483647⟩ = r) (hauh : InU auh) (hbuh : InU buh) (w : World) : Calls Tryz.prog 130 #[.agg #[.int .u64 (iv atv), .int .u64 (iv atm), .int .u64 aul, .int .u64 auh, .int .i64 asl, .int .i64 ash, .int .u64 awl, .int .u64 awh, .int .i64 avl, .int .i64 avh], .agg #[.int .u64 (iv btv), .int .u64 (iv btm), .int .u64 bul, .int .u64 buh, .int .i64 bsl, .int .i64 bsh, .int .u64 bwl, .int .u64 bwh, .int .i64 bvl, .int .i64 bvh]] w fun e w' => e = .returned (.agg #[.int .u64 (iv r.tv), .int .u64 (iv r.tm), .int .u64 r.ul, .int .u64 r.uh, .int .i64 r.sl, .int .i64 r.sh, .int .u64 r.wl, .int .u64 r.wh, .int .i64 r.vl, .int .i64 r.vh]) ∧ Gr w w' := by
  have g : ∀ x y z u : Int, x = y → z = u → syncM ⟨atv &&& btv, Tn.andM atv atm btv btm, 0, x, -9223372036854775808, 9223372036854775807, 0, z, -2147483648, 2147483647⟩ = syncM ⟨atv &&& btv, Tn.andM atv atm btv btm, 0, y, -9223372036854775808, 9223372036854775807, 0, u, -2147483648, 2147483647⟩ := by
    rintro x y z u rfl rfl
    rfl
  rcases Int.lt_or_le buh auh with h1 | h1 <;> rcases Int.lt_or_le bwh awh with h2 | h2
  · exact anded_3 atv atm aul auh asl ash awl awh avl avh btv btm bul buh bsl bsh bwl bwh bvl bvh r ((g _ _ _ _ (by omega) (by omega)).trans hr) h1 h2 hauh hbuh w
  · exact anded_2 atv atm aul auh asl ash awl awh avl avh btv btm bul buh bsl bsh bwl bwh bvl bvh r ((g _ _ _ _ (by omega) (by omega)).trans hr) h1 h2 hauh hbuh w
  · exact anded_1 atv atm aul auh asl ash awl awh avl avh btv btm bul buh bsl bsh bwl bwh bvl bvh r ((g _ _ _ _ (by omega) (by omega)).trans hr) h1 h2 hauh hbuh w
  · exact anded_0 atv atm aul auh asl ash awl awh avl avh btv btm bul buh bsl bsh bwl bwh bvl bvh r ((g _ _ _ _ (by omega) (by omega)).trans hr) h1 h2 hauh hbuh w
end Go.Proofs.YtekenpgagfmgkaaGreat
