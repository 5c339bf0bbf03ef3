/- Towards the statements of package bound (layer 5): bits taken together, of bounds, as the program does it: or, and either. Towards the statements of package bound (layer 5): products of bounds; bits; a span alone; by how many bits one is shifted. Towards the statements of package bound (layer 5): what Does answers, by what its deed, or narrow, answers. Towards the statements of package bound (layer 5): what each code makes of two bounds has what it makes of two numbers of them. Towards the statements of package bound (layer 5): BoundSound, walked. -/
import Derived.Test.YtekenpgagfmgkaaGreatBO
import Derived.Test.YtekenpgagfmgkaaGreatMD
import Derived.Test.YtekenpgagfmgkaaGreatTPMul
import Derived.Deep.DeepCutAuto
import Derived.Test.YtekenpgagfmgkaaGreatBT
import Derived.Test.YtekenpgagfmgkaaGreatMW
import Derived.Test.YtekenpgagfmgkaaGreatMB
section
namespace Go.Proofs.YtekenpgagfmgkaaGreat
open Go.ChangeShapes Go.WideShapes Go.ChangeAt Go.RowKit
open Tn (iv)
set_option linter.unusedVariables false
set_option maxRecDepth 20000

set_option maxHeartbeats 4000000 in
theorem ored_0 (atv atm : BitVec 64) (aul auh asl ash awl awh avl avh : Int) (btv btm : BitVec 64) (bul buh bsl bsh bwl bwh bvl bvh : Int) (r : Bd) (hr : syncM ⟨(atv ||| btv), (Tn.orM atv atm btv btm), aul, 18446744073709551615, (-9223372036854775808), 9223372036854775807, awl, 4294967295, (-2147483648), 2147483647⟩ = r) (h1 : bul ≤ aul) (h2 : bwl ≤ awl) (haul : InU aul) (hbul : InU bul) (w : World) : Calls Tryz.prog 129 #[.agg #[.int .u64 (iv atv), .int .u64 (iv atm), .int .u64 aul, .int .u64 auh, .int .i64 asl, .int .i64 ash, .int .u64 awl, .int .u64 awh, .int .i64 avl, .int .i64 avh], .agg #[.int .u64 (iv btv), .int .u64 (iv btm), .int .u64 bul, .int .u64 buh, .int .i64 bsl, .int .i64 bsh, .int .u64 bwl, .int .u64 bwh, .int .i64 bvl, .int .i64 bvh]] w fun e w' => e = .returned (.agg #[.int .u64 (iv r.tv), .int .u64 (iv r.tm), .int .u64 r.ul, .int .u64 r.uh, .int .i64 r.sl, .int .i64 r.sh, .int .u64 r.wl, .int .u64 r.wh, .int .i64 r.vl, .int .i64 r.vh]) ∧ Gr w w' := by
  have HR : Hid (syncM ⟨(atv ||| btv), (Tn.orM atv atm btv btm), aul, 18446744073709551615, (-9223372036854775808), 9223372036854775807, awl, 4294967295, (-2147483648), 2147483647⟩ = r) := hr
  clear hr
  go_enter Tryz.func129, Tryz.ntmps129
  go_upto_region 1 with fail
  have HA1 : Hid (AtA (((w.alloc (.cells #[.int .u64 (iv atv), .int .u64 (iv atm), .int .u64 aul, .int .u64 auh, .int .i64 asl, .int .i64 ash, .int .u64 awl, .int .u64 awh, .int .i64 avl, .int .i64 avh] 30)).alloc (.cells #[.int .u64 (iv btv), .int .u64 (iv btm), .int .u64 bul, .int .u64 buh, .int .i64 bsl, .int .i64 bsh, .int .u64 bwl, .int .u64 bwh, .int .i64 bvl, .int .i64 bvh] 30)).alloc (.cells #[.int .u64 0, .int .u64 0, .int .u64 0, .int .u64 0, .int .i64 0, .int .i64 0, .int .u64 0, .int .u64 0, .int .i64 0, .int .i64 0] 30)) w.heap.size #[(.int .u64 (iv atv)), (.int .u64 (iv atm)), (.int .u64 aul), (.int .u64 auh), (.int .i64 asl), (.int .i64 ash), (.int .u64 awl), (.int .u64 awh), (.int .i64 avl), (.int .i64 avh)] 30) := (((AtA.newb _ (by simp) _ _).alloc _).alloc _)
  have HB1 : Hid (AtA (((w.alloc (.cells #[.int .u64 (iv atv), .int .u64 (iv atm), .int .u64 aul, .int .u64 auh, .int .i64 asl, .int .i64 ash, .int .u64 awl, .int .u64 awh, .int .i64 avl, .int .i64 avh] 30)).alloc (.cells #[.int .u64 (iv btv), .int .u64 (iv btm), .int .u64 bul, .int .u64 buh, .int .i64 bsl, .int .i64 bsh, .int .u64 bwl, .int .u64 bwh, .int .i64 bvl, .int .i64 bvh] 30)).alloc (.cells #[.int .u64 0, .int .u64 0, .int .u64 0, .int .u64 0, .int .i64 0, .int .i64 0, .int .u64 0, .int .u64 0, .int .i64 0, .int .i64 0] 30)) (w.heap.size + 1) #[(.int .u64 (iv btv)), (.int .u64 (iv btm)), (.int .u64 bul), (.int .u64 buh), (.int .i64 bsl), (.int .i64 bsh), (.int .u64 bwl), (.int .u64 bwh), (.int .i64 bvl), (.int .i64 bvh)] 30) := ((AtA.newb _ (by simp) _ _).alloc _)
  have HR1 : Hid (AtA (((w.alloc (.cells #[.int .u64 (iv atv), .int .u64 (iv atm), .int .u64 aul, .int .u64 auh, .int .i64 asl, .int .i64 ash, .int .u64 awl, .int .u64 awh, .int .i64 avl, .int .i64 avh] 30)).alloc (.cells #[.int .u64 (iv btv), .int .u64 (iv btm), .int .u64 bul, .int .u64 buh, .int .i64 bsl, .int .i64 bsh, .int .u64 bwl, .int .u64 bwh, .int .i64 bvl, .int .i64 bvh] 30)).alloc (.cells #[.int .u64 0, .int .u64 0, .int .u64 0, .int .u64 0, .int .i64 0, .int .i64 0, .int .u64 0, .int .u64 0, .int .i64 0, .int .i64 0] 30)) (w.heap.size + 1 + 1) #[(.int .u64 0), (.int .u64 0), (.int .u64 0), (.int .u64 0), (.int .i64 0), (.int .i64 0), (.int .u64 0), (.int .u64 0), (.int .i64 0), (.int .i64 0)] 30) := (AtA.newb _ (by simp) _ _)
  have HG1 : Hid (Gr w (((w.alloc (.cells #[.int .u64 (iv atv), .int .u64 (iv atm), .int .u64 aul, .int .u64 auh, .int .i64 asl, .int .i64 ash, .int .u64 awl, .int .u64 awh, .int .i64 avl, .int .i64 avh] 30)).alloc (.cells #[.int .u64 (iv btv), .int .u64 (iv btm), .int .u64 bul, .int .u64 buh, .int .i64 bsl, .int .i64 bsh, .int .u64 bwl, .int .u64 bwh, .int .i64 bvl, .int .i64 bvh] 30)).alloc (.cells #[.int .u64 0, .int .u64 0, .int .u64 0, .int .u64 0, .int .i64 0, .int .i64 0, .int .u64 0, .int .u64 0, .int .i64 0, .int .i64 0] 30))) := (⟨by go_grown, by go_grown⟩ : Gr w _)
  go_upto_region 2 with (first | (go_at_call 51; refine (any_any _).mono ?_; rintro e w1 ⟨rfl, hg1⟩))
  have hsz : w.heap.size + 3 ≤ w1.heap.size := by
    have := hg1.below.size
    simp at this
    omega
  have HA2 : Hid (AtA (w1.alloc (.cells #[(.int .u64 (iv 0#64)), (.int .u64 (iv 18446744073709551615#64)), (.int .u64 0), (.int .u64 18446744073709551615), (.int .i64 (-9223372036854775808)), (.int .i64 9223372036854775807), (.int .u64 0), (.int .u64 4294967295), (.int .i64 (-2147483648)), (.int .i64 2147483647)] 30)) w.heap.size #[(.int .u64 (iv atv)), (.int .u64 (iv atm)), (.int .u64 aul), (.int .u64 auh), (.int .i64 asl), (.int .i64 ash), (.int .u64 awl), (.int .u64 awh), (.int .i64 avl), (.int .i64 avh)] 30) := (HA1.out.gr hg1).alloc _
  have HB2 : Hid (AtA (w1.alloc (.cells #[(.int .u64 (iv 0#64)), (.int .u64 (iv 18446744073709551615#64)), (.int .u64 0), (.int .u64 18446744073709551615), (.int .i64 (-9223372036854775808)), (.int .i64 9223372036854775807), (.int .u64 0), (.int .u64 4294967295), (.int .i64 (-2147483648)), (.int .i64 2147483647)] 30)) (w.heap.size + 1) #[(.int .u64 (iv btv)), (.int .u64 (iv btm)), (.int .u64 bul), (.int .u64 buh), (.int .i64 bsl), (.int .i64 bsh), (.int .u64 bwl), (.int .u64 bwh), (.int .i64 bvl), (.int .i64 bvh)] 30) := (HB1.out.gr hg1).alloc _
  have HR2 : Hid (AtA (w1.alloc (.cells #[(.int .u64 (iv 0#64)), (.int .u64 (iv 18446744073709551615#64)), (.int .u64 0), (.int .u64 18446744073709551615), (.int .i64 (-9223372036854775808)), (.int .i64 9223372036854775807), (.int .u64 0), (.int .u64 4294967295), (.int .i64 (-2147483648)), (.int .i64 2147483647)] 30)) (w.heap.size + 1 + 1) #[(.int .u64 0), (.int .u64 0), (.int .u64 0), (.int .u64 0), (.int .i64 0), (.int .i64 0), (.int .u64 0), (.int .u64 0), (.int .i64 0), (.int .i64 0)] 30) := (HR1.out.gr hg1).alloc _
  have HX2 : Hid (AtA (w1.alloc (.cells #[(.int .u64 (iv 0#64)), (.int .u64 (iv 18446744073709551615#64)), (.int .u64 0), (.int .u64 18446744073709551615), (.int .i64 (-9223372036854775808)), (.int .i64 9223372036854775807), (.int .u64 0), (.int .u64 4294967295), (.int .i64 (-2147483648)), (.int .i64 2147483647)] 30)) w1.heap.size #[(.int .u64 (iv 0#64)), (.int .u64 (iv 18446744073709551615#64)), (.int .u64 0), (.int .u64 18446744073709551615), (.int .i64 (-9223372036854775808)), (.int .i64 9223372036854775807), (.int .u64 0), (.int .u64 4294967295), (.int .i64 (-2147483648)), (.int .i64 2147483647)] 30) := AtA.newb _ rfl _ _
  have HG2 : Hid (Gr w (w1.alloc (.cells #[(.int .u64 (iv 0#64)), (.int .u64 (iv 18446744073709551615#64)), (.int .u64 0), (.int .u64 18446744073709551615), (.int .i64 (-9223372036854775808)), (.int .i64 9223372036854775807), (.int .u64 0), (.int .u64 4294967295), (.int .i64 (-2147483648)), (.int .i64 2147483647)] 30))) := (HG1.out.trans hg1).alloc _ _
  clear HA1 HB1 HR1 HG1
  clear hg1
  have k1 := HA2.out.cell 0
  have k2 := HA2.out.cell 1
  have k3 := HB2.out.cell 0
  have k4 := HB2.out.cell 1
  simp only [List.getElem?_toArray, List.getElem?_cons_zero, List.getElem?_cons_succ] at k1 k2 k3 k4
  go_upto_region 3 with (first | (go_at_call 192; refine (cv (Tn.or_any _ _ _ _ _)).mono ?_; rintro e w2 ⟨rfl, hg2⟩ ; have hx2 : Hid (AtA w2 w1.heap.size #[(.int .u64 (iv 0#64)), (.int .u64 (iv 18446744073709551615#64)), (.int .u64 0), (.int .u64 18446744073709551615), (.int .i64 (-9223372036854775808)), (.int .i64 9223372036854775807), (.int .u64 0), (.int .u64 4294967295), (.int .i64 (-2147483648)), (.int .i64 2147483647)] 30) := (HX2.out.gr hg2); have k5 := hx2.out.f 0; have k6 := hx2.out.cell 0; have k7 := hx2.out.f 1; have k8 := hx2.out.cell 1; simp only [List.getElem?_toArray, List.getElem?_cons_zero, List.getElem?_cons_succ] at k6 k8))
  clear k1 k2 k3 k4 k5 k6 k7 k8
  have HA3 : Hid (AtA w2 w.heap.size #[(.int .u64 (iv atv)), (.int .u64 (iv atm)), (.int .u64 aul), (.int .u64 auh), (.int .i64 asl), (.int .i64 ash), (.int .u64 awl), (.int .u64 awh), (.int .i64 avl), (.int .i64 avh)] 30) := (HA2.out.gr hg2)
  have HB3 : Hid (AtA w2 (w.heap.size + 1) #[(.int .u64 (iv btv)), (.int .u64 (iv btm)), (.int .u64 bul), (.int .u64 buh), (.int .i64 bsl), (.int .i64 bsh), (.int .u64 bwl), (.int .u64 bwh), (.int .i64 bvl), (.int .i64 bvh)] 30) := (HB2.out.gr hg2)
  have HR3 : Hid (AtA w2 (w.heap.size + 1 + 1) #[(.int .u64 0), (.int .u64 0), (.int .u64 0), (.int .u64 0), (.int .i64 0), (.int .i64 0), (.int .u64 0), (.int .u64 0), (.int .i64 0), (.int .i64 0)] 30) := (HR2.out.gr hg2)
  have HX3 : Hid (AtA w2 w1.heap.size #[(.int .u64 (iv 0#64)), (.int .u64 (iv 18446744073709551615#64)), (.int .u64 0), (.int .u64 18446744073709551615), (.int .i64 (-9223372036854775808)), (.int .i64 9223372036854775807), (.int .u64 0), (.int .u64 4294967295), (.int .i64 (-2147483648)), (.int .i64 2147483647)] 30) := (HX2.out.gr hg2)
  have HG3 : Hid (Gr w w2) := (HG2.out.trans hg2)
  clear HA2 HB2 HR2 HX2 HG2
  clear hx2 hg2
  have HA4 : Hid (AtA ((w2.setCell ⟨w1.heap.size, 0, none⟩ (.int .u64 (iv (atv ||| btv)))).setCell ⟨w1.heap.size, 1, none⟩ (.int .u64 (iv (Tn.orM atv atm btv btm)))) w.heap.size #[(.int .u64 (iv atv)), (.int .u64 (iv atm)), (.int .u64 aul), (.int .u64 auh), (.int .i64 asl), (.int .i64 ash), (.int .u64 awl), (.int .u64 awh), (.int .i64 avl), (.int .i64 avh)] 30) := ((HA3.out.other (by omega) (.int .u64 (iv (atv ||| btv)))).other (by omega) (.int .u64 (iv (Tn.orM atv atm btv btm))))
  have HB4 : Hid (AtA ((w2.setCell ⟨w1.heap.size, 0, none⟩ (.int .u64 (iv (atv ||| btv)))).setCell ⟨w1.heap.size, 1, none⟩ (.int .u64 (iv (Tn.orM atv atm btv btm)))) (w.heap.size + 1) #[(.int .u64 (iv btv)), (.int .u64 (iv btm)), (.int .u64 bul), (.int .u64 buh), (.int .i64 bsl), (.int .i64 bsh), (.int .u64 bwl), (.int .u64 bwh), (.int .i64 bvl), (.int .i64 bvh)] 30) := ((HB3.out.other (by omega) (.int .u64 (iv (atv ||| btv)))).other (by omega) (.int .u64 (iv (Tn.orM atv atm btv btm))))
  have HR4 : Hid (AtA ((w2.setCell ⟨w1.heap.size, 0, none⟩ (.int .u64 (iv (atv ||| btv)))).setCell ⟨w1.heap.size, 1, none⟩ (.int .u64 (iv (Tn.orM atv atm btv btm)))) (w.heap.size + 1 + 1) #[(.int .u64 0), (.int .u64 0), (.int .u64 0), (.int .u64 0), (.int .i64 0), (.int .i64 0), (.int .u64 0), (.int .u64 0), (.int .i64 0), (.int .i64 0)] 30) := ((HR3.out.other (by omega) (.int .u64 (iv (atv ||| btv)))).other (by omega) (.int .u64 (iv (Tn.orM atv atm btv btm))))
  have HX4 : Hid (AtA ((w2.setCell ⟨w1.heap.size, 0, none⟩ (.int .u64 (iv (atv ||| btv)))).setCell ⟨w1.heap.size, 1, none⟩ (.int .u64 (iv (Tn.orM atv atm btv btm)))) w1.heap.size #[(.int .u64 (iv (atv ||| btv))), (.int .u64 (iv (Tn.orM atv atm btv btm))), (.int .u64 0), (.int .u64 18446744073709551615), (.int .i64 (-9223372036854775808)), (.int .i64 9223372036854775807), (.int .u64 0), (.int .u64 4294967295), (.int .i64 (-2147483648)), (.int .i64 2147483647)] 30) := by have h := ((HX3.out.st 0 (.int .u64 (iv (atv ||| btv)))).st 1 (.int .u64 (iv (Tn.orM atv atm btv btm)))); simp only [List.setIfInBounds_toArray, List.set_cons_zero, List.set_cons_succ] at h; exact h
  have HG4 : Hid (Gr w ((w2.setCell ⟨w1.heap.size, 0, none⟩ (.int .u64 (iv (atv ||| btv)))).setCell ⟨w1.heap.size, 1, none⟩ (.int .u64 (iv (Tn.orM atv atm btv btm))))) := ((HG3.out.set (by omega) (.int .u64 (iv (atv ||| btv)))).set (by omega) (.int .u64 (iv (Tn.orM atv atm btv btm))))
  clear HA3 HB3 HR3 HX3 HG3
  have k9 := HA4.out.cell 2
  have k10 := HB4.out.cell 2
  simp only [List.getElem?_toArray, List.getElem?_cons_zero, List.getElem?_cons_succ] at k9 k10
  have k11 := HX4.out.f 2
  have k12 := HX4.out.cell 2
  simp only [List.getElem?_toArray, List.getElem?_cons_zero, List.getElem?_cons_succ] at k12
  go_upto_region 4 with fail
  all_goals first | omega | skip
  clear k9 k10 k11 k12
  have HA5 : Hid (AtA (((w2.setCell ⟨w1.heap.size, 0, none⟩ (.int .u64 (iv (atv ||| btv)))).setCell ⟨w1.heap.size, 1, none⟩ (.int .u64 (iv (Tn.orM atv atm btv btm)))).setCell ⟨w1.heap.size, 2, none⟩ (.int .u64 aul)) w.heap.size #[(.int .u64 (iv atv)), (.int .u64 (iv atm)), (.int .u64 aul), (.int .u64 auh), (.int .i64 asl), (.int .i64 ash), (.int .u64 awl), (.int .u64 awh), (.int .i64 avl), (.int .i64 avh)] 30) := (HA4.out.other (by omega) (.int .u64 aul))
  have HB5 : Hid (AtA (((w2.setCell ⟨w1.heap.size, 0, none⟩ (.int .u64 (iv (atv ||| btv)))).setCell ⟨w1.heap.size, 1, none⟩ (.int .u64 (iv (Tn.orM atv atm btv btm)))).setCell ⟨w1.heap.size, 2, none⟩ (.int .u64 aul)) (w.heap.size + 1) #[(.int .u64 (iv btv)), (.int .u64 (iv btm)), (.int .u64 bul), (.int .u64 buh), (.int .i64 bsl), (.int .i64 bsh), (.int .u64 bwl), (.int .u64 bwh), (.int .i64 bvl), (.int .i64 bvh)] 30) := (HB4.out.other (by omega) (.int .u64 aul))
  have HR5 : Hid (AtA (((w2.setCell ⟨w1.heap.size, 0, none⟩ (.int .u64 (iv (atv ||| btv)))).setCell ⟨w1.heap.size, 1, none⟩ (.int .u64 (iv (Tn.orM atv atm btv btm)))).setCell ⟨w1.heap.size, 2, none⟩ (.int .u64 aul)) (w.heap.size + 1 + 1) #[(.int .u64 0), (.int .u64 0), (.int .u64 0), (.int .u64 0), (.int .i64 0), (.int .i64 0), (.int .u64 0), (.int .u64 0), (.int .i64 0), (.int .i64 0)] 30) := (HR4.out.other (by omega) (.int .u64 aul))
  have HX5 : Hid (AtA (((w2.setCell ⟨w1.heap.size, 0, none⟩ (.int .u64 (iv (atv ||| btv)))).setCell ⟨w1.heap.size, 1, none⟩ (.int .u64 (iv (Tn.orM atv atm btv btm)))).setCell ⟨w1.heap.size, 2, none⟩ (.int .u64 aul)) w1.heap.size #[(.int .u64 (iv (atv ||| btv))), (.int .u64 (iv (Tn.orM atv atm btv btm))), (.int .u64 aul), (.int .u64 18446744073709551615), (.int .i64 (-9223372036854775808)), (.int .i64 9223372036854775807), (.int .u64 0), (.int .u64 4294967295), (.int .i64 (-2147483648)), (.int .i64 2147483647)] 30) := by have h := (HX4.out.st 2 (.int .u64 aul)); simp only [List.setIfInBounds_toArray, List.set_cons_zero, List.set_cons_succ] at h; exact h
  have HG5 : Hid (Gr w (((w2.setCell ⟨w1.heap.size, 0, none⟩ (.int .u64 (iv (atv ||| btv)))).setCell ⟨w1.heap.size, 1, none⟩ (.int .u64 (iv (Tn.orM atv atm btv btm)))).setCell ⟨w1.heap.size, 2, none⟩ (.int .u64 aul))) := (HG4.out.set (by omega) (.int .u64 aul))
  clear HA4 HB4 HR4 HX4 HG4
  have k13 := HA5.out.cell 6
  have k14 := HB5.out.cell 6
  simp only [List.getElem?_toArray, List.getElem?_cons_zero, List.getElem?_cons_succ] at k13 k14
  have k15 := HX5.out.f 6
  have k16 := HX5.out.cell 6
  simp only [List.getElem?_toArray, List.getElem?_cons_zero, List.getElem?_cons_succ] at k16
  go_upto_region 5 with fail
  all_goals first | omega | skip
  clear k13 k14 k15 k16
  have HA6 : Hid (AtA ((((w2.setCell ⟨w1.heap.size, 0, none⟩ (.int .u64 (iv (atv ||| btv)))).setCell ⟨w1.heap.size, 1, none⟩ (.int .u64 (iv (Tn.orM atv atm btv btm)))).setCell ⟨w1.heap.size, 2, none⟩ (.int .u64 aul)).setCell ⟨w1.heap.size, 6, none⟩ (.int .u64 awl)) w.heap.size #[(.int .u64 (iv atv)), (.int .u64 (iv atm)), (.int .u64 aul), (.int .u64 auh), (.int .i64 asl), (.int .i64 ash), (.int .u64 awl), (.int .u64 awh), (.int .i64 avl), (.int .i64 avh)] 30) := (HA5.out.other (by omega) (.int .u64 awl))
  have HB6 : Hid (AtA ((((w2.setCell ⟨w1.heap.size, 0, none⟩ (.int .u64 (iv (atv ||| btv)))).setCell ⟨w1.heap.size, 1, none⟩ (.int .u64 (iv (Tn.orM atv atm btv btm)))).setCell ⟨w1.heap.size, 2, none⟩ (.int .u64 aul)).setCell ⟨w1.heap.size, 6, none⟩ (.int .u64 awl)) (w.heap.size + 1) #[(.int .u64 (iv btv)), (.int .u64 (iv btm)), (.int .u64 bul), (.int .u64 buh), (.int .i64 bsl), (.int .i64 bsh), (.int .u64 bwl), (.int .u64 bwh), (.int .i64 bvl), (.int .i64 bvh)] 30) := (HB5.out.other (by omega) (.int .u64 awl))
  have HR6 : Hid (AtA ((((w2.setCell ⟨w1.heap.size, 0, none⟩ (.int .u64 (iv (atv ||| btv)))).setCell ⟨w1.heap.size, 1, none⟩ (.int .u64 (iv (Tn.orM atv atm btv btm)))).setCell ⟨w1.heap.size, 2, none⟩ (.int .u64 aul)).setCell ⟨w1.heap.size, 6, none⟩ (.int .u64 awl)) (w.heap.size + 1 + 1) #[(.int .u64 0), (.int .u64 0), (.int .u64 0), (.int .u64 0), (.int .i64 0), (.int .i64 0), (.int .u64 0), (.int .u64 0), (.int .i64 0), (.int .i64 0)] 30) := (HR5.out.other (by omega) (.int .u64 awl))
  have HX6 : Hid (AtA ((((w2.setCell ⟨w1.heap.size, 0, none⟩ (.int .u64 (iv (atv ||| btv)))).setCell ⟨w1.heap.size, 1, none⟩ (.int .u64 (iv (Tn.orM atv atm btv btm)))).setCell ⟨w1.heap.size, 2, none⟩ (.int .u64 aul)).setCell ⟨w1.heap.size, 6, none⟩ (.int .u64 awl)) w1.heap.size #[(.int .u64 (iv (atv ||| btv))), (.int .u64 (iv (Tn.orM atv atm btv btm))), (.int .u64 aul), (.int .u64 18446744073709551615), (.int .i64 (-9223372036854775808)), (.int .i64 9223372036854775807), (.int .u64 awl), (.int .u64 4294967295), (.int .i64 (-2147483648)), (.int .i64 2147483647)] 30) := by have h := (HX5.out.st 6 (.int .u64 awl)); simp only [List.setIfInBounds_toArray, List.set_cons_zero, List.set_cons_succ] at h; exact h
  have HG6 : Hid (Gr w ((((w2.setCell ⟨w1.heap.size, 0, none⟩ (.int .u64 (iv (atv ||| btv)))).setCell ⟨w1.heap.size, 1, none⟩ (.int .u64 (iv (Tn.orM atv atm btv btm)))).setCell ⟨w1.heap.size, 2, none⟩ (.int .u64 aul)).setCell ⟨w1.heap.size, 6, none⟩ (.int .u64 awl))) := (HG5.out.set (by omega) (.int .u64 awl))
  clear HA5 HB5 HR5 HX5 HG5
  have k17 := HX6.out.cell 0
  have k18 := HX6.out.cell 1
  have k19 := HX6.out.cell 2
  have k20 := HX6.out.cell 3
  have k21 := HX6.out.cell 4
  have k22 := HX6.out.cell 5
  have k23 := HX6.out.cell 6
  have k24 := HX6.out.cell 7
  have k25 := HX6.out.cell 8
  have k26 := HX6.out.cell 9
  simp only [List.getElem?_toArray, List.getElem?_cons_zero, List.getElem?_cons_succ] at k17 k18 k19 k20 k21 k22 k23 k24 k25 k26
  go_wp2_with (first
    | (go_at_call 11; refine (sync_q _ _ _ _ _ _ _ _ _ _ r HR.out (by assumption) inU_f inS_z inS_f _).mono ?_; rintro e w3 ⟨rfl, hg⟩; have hr : Hid (AtA w3 (w.heap.size + 1 + 1) _ 30) := HR6.out.gr hg; have hG : Hid (Gr w w3) := HG6.out.trans hg; clear hg
       have f0 := (hr.out).f 0
       have f1 := (hr.out).f 1
       have f2 := (hr.out).f 2
       have f3 := (hr.out).f 3
       have f4 := (hr.out).f 4
       have f5 := (hr.out).f 5
       have f6 := (hr.out).f 6
       have f7 := (hr.out).f 7
       have f8 := (hr.out).f 8
       have f9 := (hr.out).f 9
       have d0 := (hr.out).cell 0
       have d1 := (hr.out).cell 1
       have d2 := (hr.out).cell 2
       have d3 := (hr.out).cell 3
       have d4 := (hr.out).cell 4
       have d5 := (hr.out).cell 5
       have d6 := (hr.out).cell 6
       have d7 := (hr.out).cell 7
       have d8 := (hr.out).cell 8
       have d9 := (hr.out).cell 9
       simp only [List.getElem?_toArray, List.getElem?_cons_zero, List.getElem?_cons_succ] at d0 d1 d2 d3 d4 d5 d6 d7 d8 d9
       have hz := (((((((((((hr.out).st 0 (.int .u64 (iv r.tv))).st 1 (.int .u64 (iv r.tm))).st 2 (.int .u64 r.ul)).st 3 (.int .u64 r.uh)).st 4 (.int .i64 r.sl)).st 5 (.int .i64 r.sh)).st 6 (.int .u64 r.wl)).st 7 (.int .u64 r.wh)).st 8 (.int .i64 r.vl)).st 9 (.int .i64 r.vh))
       simp only [List.setIfInBounds_toArray, List.set_cons_zero, List.set_cons_succ] at hz
       have e0 := hz.cell 0
       have e1 := hz.cell 1
       have e2 := hz.cell 2
       have e3 := hz.cell 3
       have e4 := hz.cell 4
       have e5 := hz.cell 5
       have e6 := hz.cell 6
       have e7 := hz.cell 7
       have e8 := hz.cell 8
       have e9 := hz.cell 9
       simp only [List.getElem?_toArray, List.getElem?_cons_zero, List.getElem?_cons_succ] at e0 e1 e2 e3 e4 e5 e6 e7 e8 e9
       clear hz))
  refine bodyPost_ret (by simp [results, Tryz.results129, go_sem, e0, e1, e2, e3, e4, e5, e6, e7, e8, e9]; try rfl) rfl ?_
  exact ⟨rfl, ((((((((((hG.out.set (by omega) _).set (by omega) _).set (by omega) _).set (by omega) _).set (by omega) _).set (by omega) _).set (by omega) _).set (by omega) _).set (by omega) _).set (by omega) _)⟩
set_option maxHeartbeats 4000000 in
theorem ored_1 (atv atm : BitVec 64) (aul auh asl ash awl awh avl avh : Int) (btv btm : BitVec 64) (bul buh bsl bsh bwl bwh bvl bvh : Int) (r : Bd) (hr : syncM ⟨(atv ||| btv), (Tn.orM atv atm btv btm), aul, 18446744073709551615, (-9223372036854775808), 9223372036854775807, bwl, 4294967295, (-2147483648), 2147483647⟩ = r) (h1 : bul ≤ aul) (h2 : awl < bwl) (haul : InU aul) (hbul : InU bul) (w : World) : Calls Tryz.prog 129 #[.agg #[.int .u64 (iv atv), .int .u64 (iv atm), .int .u64 aul, .int .u64 auh, .int .i64 asl, .int .i64 ash, .int .u64 awl, .int .u64 awh, .int .i64 avl, .int .i64 avh], .agg #[.int .u64 (iv btv), .int .u64 (iv btm), .int .u64 bul, .int .u64 buh, .int .i64 bsl, .int .i64 bsh, .int .u64 bwl, .int .u64 bwh, .int .i64 bvl, .int .i64 bvh]] w fun e w' => e = .returned (.agg #[.int .u64 (iv r.tv), .int .u64 (iv r.tm), .int .u64 r.ul, .int .u64 r.uh, .int .i64 r.sl, .int .i64 r.sh, .int .u64 r.wl, .int .u64 r.wh, .int .i64 r.vl, .int .i64 r.vh]) ∧ Gr w w' := by
  have HR : Hid (syncM ⟨(atv ||| btv), (Tn.orM atv atm btv btm), aul, 18446744073709551615, (-9223372036854775808), 9223372036854775807, bwl, 4294967295, (-2147483648), 2147483647⟩ = r) := hr
  clear hr
  go_enter Tryz.func129, Tryz.ntmps129
  go_upto_region 1 with fail
  have HA1 : Hid (AtA (((w.alloc (.cells #[.int .u64 (iv atv), .int .u64 (iv atm), .int .u64 aul, .int .u64 auh, .int .i64 asl, .int .i64 ash, .int .u64 awl, .int .u64 awh, .int .i64 avl, .int .i64 avh] 30)).alloc (.cells #[.int .u64 (iv btv), .int .u64 (iv btm), .int .u64 bul, .int .u64 buh, .int .i64 bsl, .int .i64 bsh, .int .u64 bwl, .int .u64 bwh, .int .i64 bvl, .int .i64 bvh] 30)).alloc (.cells #[.int .u64 0, .int .u64 0, .int .u64 0, .int .u64 0, .int .i64 0, .int .i64 0, .int .u64 0, .int .u64 0, .int .i64 0, .int .i64 0] 30)) w.heap.size #[(.int .u64 (iv atv)), (.int .u64 (iv atm)), (.int .u64 aul), (.int .u64 auh), (.int .i64 asl), (.int .i64 ash), (.int .u64 awl), (.int .u64 awh), (.int .i64 avl), (.int .i64 avh)] 30) := (((AtA.newb _ (by simp) _ _).alloc _).alloc _)
  have HB1 : Hid (AtA (((w.alloc (.cells #[.int .u64 (iv atv), .int .u64 (iv atm), .int .u64 aul, .int .u64 auh, .int .i64 asl, .int .i64 ash, .int .u64 awl, .int .u64 awh, .int .i64 avl, .int .i64 avh] 30)).alloc (.cells #[.int .u64 (iv btv), .int .u64 (iv btm), .int .u64 bul, .int .u64 buh, .int .i64 bsl, .int .i64 bsh, .int .u64 bwl, .int .u64 bwh, .int .i64 bvl, .int .i64 bvh] 30)).alloc (.cells #[.int .u64 0, .int .u64 0, .int .u64 0, .int .u64 0, .int .i64 0, .int .i64 0, .int .u64 0, .int .u64 0, .int .i64 0, .int .i64 0] 30)) (w.heap.size + 1) #[(.int .u64 (iv btv)), (.int .u64 (iv btm)), (.int .u64 bul), (.int .u64 buh), (.int .i64 bsl), (.int .i64 bsh), (.int .u64 bwl), (.int .u64 bwh), (.int .i64 bvl), (.int .i64 bvh)] 30) := ((AtA.newb _ (by simp) _ _).alloc _)
  have HR1 : Hid (AtA (((w.alloc (.cells #[.int .u64 (iv atv), .int .u64 (iv atm), .int .u64 aul, .int .u64 auh, .int .i64 asl, .int .i64 ash, .int .u64 awl, .int .u64 awh, .int .i64 avl, .int .i64 avh] 30)).alloc (.cells #[.int .u64 (iv btv), .int .u64 (iv btm), .int .u64 bul, .int .u64 buh, .int .i64 bsl, .int .i64 bsh, .int .u64 bwl, .int .u64 bwh, .int .i64 bvl, .int .i64 bvh] 30)).alloc (.cells #[.int .u64 0, .int .u64 0, .int .u64 0, .int .u64 0, .int .i64 0, .int .i64 0, .int .u64 0, .int .u64 0, .int .i64 0, .int .i64 0] 30)) (w.heap.size + 1 + 1) #[(.int .u64 0), (.int .u64 0), (.int .u64 0), (.int .u64 0), (.int .i64 0), (.int .i64 0), (.int .u64 0), (.int .u64 0), (.int .i64 0), (.int .i64 0)] 30) := (AtA.newb _ (by simp) _ _)
  have HG1 : Hid (Gr w (((w.alloc (.cells #[.int .u64 (iv atv), .int .u64 (iv atm), .int .u64 aul, .int .u64 auh, .int .i64 asl, .int .i64 ash, .int .u64 awl, .int .u64 awh, .int .i64 avl, .int .i64 avh] 30)).alloc (.cells #[.int .u64 (iv btv), .int .u64 (iv btm), .int .u64 bul, .int .u64 buh, .int .i64 bsl, .int .i64 bsh, .int .u64 bwl, .int .u64 bwh, .int .i64 bvl, .int .i64 bvh] 30)).alloc (.cells #[.int .u64 0, .int .u64 0, .int .u64 0, .int .u64 0, .int .i64 0, .int .i64 0, .int .u64 0, .int .u64 0, .int .i64 0, .int .i64 0] 30))) := (⟨by go_grown, by go_grown⟩ : Gr w _)
  go_upto_region 2 with (first | (go_at_call 51; refine (any_any _).mono ?_; rintro e w1 ⟨rfl, hg1⟩))
  have hsz : w.heap.size + 3 ≤ w1.heap.size := by
    have := hg1.below.size
    simp at this
    omega
  have HA2 : Hid (AtA (w1.alloc (.cells #[(.int .u64 (iv 0#64)), (.int .u64 (iv 18446744073709551615#64)), (.int .u64 0), (.int .u64 18446744073709551615), (.int .i64 (-9223372036854775808)), (.int .i64 9223372036854775807), (.int .u64 0), (.int .u64 4294967295), (.int .i64 (-2147483648)), (.int .i64 2147483647)] 30)) w.heap.size #[(.int .u64 (iv atv)), (.int .u64 (iv atm)), (.int .u64 aul), (.int .u64 auh), (.int .i64 asl), (.int .i64 ash), (.int .u64 awl), (.int .u64 awh), (.int .i64 avl), (.int .i64 avh)] 30) := (HA1.out.gr hg1).alloc _
  have HB2 : Hid (AtA (w1.alloc (.cells #[(.int .u64 (iv 0#64)), (.int .u64 (iv 18446744073709551615#64)), (.int .u64 0), (.int .u64 18446744073709551615), (.int .i64 (-9223372036854775808)), (.int .i64 9223372036854775807), (.int .u64 0), (.int .u64 4294967295), (.int .i64 (-2147483648)), (.int .i64 2147483647)] 30)) (w.heap.size + 1) #[(.int .u64 (iv btv)), (.int .u64 (iv btm)), (.int .u64 bul), (.int .u64 buh), (.int .i64 bsl), (.int .i64 bsh), (.int .u64 bwl), (.int .u64 bwh), (.int .i64 bvl), (.int .i64 bvh)] 30) := (HB1.out.gr hg1).alloc _
  have HR2 : Hid (AtA (w1.alloc (.cells #[(.int .u64 (iv 0#64)), (.int .u64 (iv 18446744073709551615#64)), (.int .u64 0), (.int .u64 18446744073709551615), (.int .i64 (-9223372036854775808)), (.int .i64 9223372036854775807), (.int .u64 0), (.int .u64 4294967295), (.int .i64 (-2147483648)), (.int .i64 2147483647)] 30)) (w.heap.size + 1 + 1) #[(.int .u64 0), (.int .u64 0), (.int .u64 0), (.int .u64 0), (.int .i64 0), (.int .i64 0), (.int .u64 0), (.int .u64 0), (.int .i64 0), (.int .i64 0)] 30) := (HR1.out.gr hg1).alloc _
  have HX2 : Hid (AtA (w1.alloc (.cells #[(.int .u64 (iv 0#64)), (.int .u64 (iv 18446744073709551615#64)), (.int .u64 0), (.int .u64 18446744073709551615), (.int .i64 (-9223372036854775808)), (.int .i64 9223372036854775807), (.int .u64 0), (.int .u64 4294967295), (.int .i64 (-2147483648)), (.int .i64 2147483647)] 30)) w1.heap.size #[(.int .u64 (iv 0#64)), (.int .u64 (iv 18446744073709551615#64)), (.int .u64 0), (.int .u64 18446744073709551615), (.int .i64 (-9223372036854775808)), (.int .i64 9223372036854775807), (.int .u64 0), (.int .u64 4294967295), (.int .i64 (-2147483648)), (.int .i64 2147483647)] 30) := AtA.newb _ rfl _ _
  have HG2 : Hid (Gr w (w1.alloc (.cells #[(.int .u64 (iv 0#64)), (.int .u64 (iv 18446744073709551615#64)), (.int .u64 0), (.int .u64 18446744073709551615), (.int .i64 (-9223372036854775808)), (.int .i64 9223372036854775807), (.int .u64 0), (.int .u64 4294967295), (.int .i64 (-2147483648)), (.int .i64 2147483647)] 30))) := (HG1.out.trans hg1).alloc _ _
  clear HA1 HB1 HR1 HG1
  clear hg1
  have k1 := HA2.out.cell 0
  have k2 := HA2.out.cell 1
  have k3 := HB2.out.cell 0
  have k4 := HB2.out.cell 1
  simp only [List.getElem?_toArray, List.getElem?_cons_zero, List.getElem?_cons_succ] at k1 k2 k3 k4
  go_upto_region 3 with (first | (go_at_call 192; refine (cv (Tn.or_any _ _ _ _ _)).mono ?_; rintro e w2 ⟨rfl, hg2⟩ ; have hx2 : Hid (AtA w2 w1.heap.size #[(.int .u64 (iv 0#64)), (.int .u64 (iv 18446744073709551615#64)), (.int .u64 0), (.int .u64 18446744073709551615), (.int .i64 (-9223372036854775808)), (.int .i64 9223372036854775807), (.int .u64 0), (.int .u64 4294967295), (.int .i64 (-2147483648)), (.int .i64 2147483647)] 30) := (HX2.out.gr hg2); have k5 := hx2.out.f 0; have k6 := hx2.out.cell 0; have k7 := hx2.out.f 1; have k8 := hx2.out.cell 1; simp only [List.getElem?_toArray, List.getElem?_cons_zero, List.getElem?_cons_succ] at k6 k8))
  clear k1 k2 k3 k4 k5 k6 k7 k8
  have HA3 : Hid (AtA w2 w.heap.size #[(.int .u64 (iv atv)), (.int .u64 (iv atm)), (.int .u64 aul), (.int .u64 auh), (.int .i64 asl), (.int .i64 ash), (.int .u64 awl), (.int .u64 awh), (.int .i64 avl), (.int .i64 avh)] 30) := (HA2.out.gr hg2)
  have HB3 : Hid (AtA w2 (w.heap.size + 1) #[(.int .u64 (iv btv)), (.int .u64 (iv btm)), (.int .u64 bul), (.int .u64 buh), (.int .i64 bsl), (.int .i64 bsh), (.int .u64 bwl), (.int .u64 bwh), (.int .i64 bvl), (.int .i64 bvh)] 30) := (HB2.out.gr hg2)
  have HR3 : Hid (AtA w2 (w.heap.size + 1 + 1) #[(.int .u64 0), (.int .u64 0), (.int .u64 0), (.int .u64 0), (.int .i64 0), (.int .i64 0), (.int .u64 0), (.int .u64 0), (.int .i64 0), (.int .i64 0)] 30) := (HR2.out.gr hg2)
  have HX3 : Hid (AtA w2 w1.heap.size #[(.int .u64 (iv 0#64)), (.int .u64 (iv 18446744073709551615#64)), (.int .u64 0), (.int .u64 18446744073709551615), (.int .i64 (-9223372036854775808)), (.int .i64 9223372036854775807), (.int .u64 0), (.int .u64 4294967295), (.int .i64 (-2147483648)), (.int .i64 2147483647)] 30) := (HX2.out.gr hg2)
  have HG3 : Hid (Gr w w2) := (HG2.out.trans hg2)
  clear HA2 HB2 HR2 HX2 HG2
  clear hx2 hg2
  have HA4 : Hid (AtA ((w2.setCell ⟨w1.heap.size, 0, none⟩ (.int .u64 (iv (atv ||| btv)))).setCell ⟨w1.heap.size, 1, none⟩ (.int .u64 (iv (Tn.orM atv atm btv btm)))) w.heap.size #[(.int .u64 (iv atv)), (.int .u64 (iv atm)), (.int .u64 aul), (.int .u64 auh), (.int .i64 asl), (.int .i64 ash), (.int .u64 awl), (.int .u64 awh), (.int .i64 avl), (.int .i64 avh)] 30) := ((HA3.out.other (by omega) (.int .u64 (iv (atv ||| btv)))).other (by omega) (.int .u64 (iv (Tn.orM atv atm btv btm))))
  have HB4 : Hid (AtA ((w2.setCell ⟨w1.heap.size, 0, none⟩ (.int .u64 (iv (atv ||| btv)))).setCell ⟨w1.heap.size, 1, none⟩ (.int .u64 (iv (Tn.orM atv atm btv btm)))) (w.heap.size + 1) #[(.int .u64 (iv btv)), (.int .u64 (iv btm)), (.int .u64 bul), (.int .u64 buh), (.int .i64 bsl), (.int .i64 bsh), (.int .u64 bwl), (.int .u64 bwh), (.int .i64 bvl), (.int .i64 bvh)] 30) := ((HB3.out.other (by omega) (.int .u64 (iv (atv ||| btv)))).other (by omega) (.int .u64 (iv (Tn.orM atv atm btv btm))))
  have HR4 : Hid (AtA ((w2.setCell ⟨w1.heap.size, 0, none⟩ (.int .u64 (iv (atv ||| btv)))).setCell ⟨w1.heap.size, 1, none⟩ (.int .u64 (iv (Tn.orM atv atm btv btm)))) (w.heap.size + 1 + 1) #[(.int .u64 0), (.int .u64 0), (.int .u64 0), (.int .u64 0), (.int .i64 0), (.int .i64 0), (.int .u64 0), (.int .u64 0), (.int .i64 0), (.int .i64 0)] 30) := ((HR3.out.other (by omega) (.int .u64 (iv (atv ||| btv)))).other (by omega) (.int .u64 (iv (Tn.orM atv atm btv btm))))
  have HX4 : Hid (AtA ((w2.setCell ⟨w1.heap.size, 0, none⟩ (.int .u64 (iv (atv ||| btv)))).setCell ⟨w1.heap.size, 1, none⟩ (.int .u64 (iv (Tn.orM atv atm btv btm)))) w1.heap.size #[(.int .u64 (iv (atv ||| btv))), (.int .u64 (iv (Tn.orM atv atm btv btm))), (.int .u64 0), (.int .u64 18446744073709551615), (.int .i64 (-9223372036854775808)), (.int .i64 9223372036854775807), (.int .u64 0), (.int .u64 4294967295), (.int .i64 (-2147483648)), (.int .i64 2147483647)] 30) := by have h := ((HX3.out.st 0 (.int .u64 (iv (atv ||| btv)))).st 1 (.int .u64 (iv (Tn.orM atv atm btv btm)))); simp only [List.setIfInBounds_toArray, List.set_cons_zero, List.set_cons_succ] at h; exact h
  have HG4 : Hid (Gr w ((w2.setCell ⟨w1.heap.size, 0, none⟩ (.int .u64 (iv (atv ||| btv)))).setCell ⟨w1.heap.size, 1, none⟩ (.int .u64 (iv (Tn.orM atv atm btv btm))))) := ((HG3.out.set (by omega) (.int .u64 (iv (atv ||| btv)))).set (by omega) (.int .u64 (iv (Tn.orM atv atm btv btm))))
  clear HA3 HB3 HR3 HX3 HG3
  have k9 := HA4.out.cell 2
  have k10 := HB4.out.cell 2
  simp only [List.getElem?_toArray, List.getElem?_cons_zero, List.getElem?_cons_succ] at k9 k10
  have k11 := HX4.out.f 2
  have k12 := HX4.out.cell 2
  simp only [List.getElem?_toArray, List.getElem?_cons_zero, List.getElem?_cons_succ] at k12
  go_upto_region 4 with fail
  all_goals first | omega | skip
  clear k9 k10 k11 k12
  have HA5 : Hid (AtA (((w2.setCell ⟨w1.heap.size, 0, none⟩ (.int .u64 (iv (atv ||| btv)))).setCell ⟨w1.heap.size, 1, none⟩ (.int .u64 (iv (Tn.orM atv atm btv btm)))).setCell ⟨w1.heap.size, 2, none⟩ (.int .u64 aul)) w.heap.size #[(.int .u64 (iv atv)), (.int .u64 (iv atm)), (.int .u64 aul), (.int .u64 auh), (.int .i64 asl), (.int .i64 ash), (.int .u64 awl), (.int .u64 awh), (.int .i64 avl), (.int .i64 avh)] 30) := (HA4.out.other (by omega) (.int .u64 aul))
  have HB5 : Hid (AtA (((w2.setCell ⟨w1.heap.size, 0, none⟩ (.int .u64 (iv (atv ||| btv)))).setCell ⟨w1.heap.size, 1, none⟩ (.int .u64 (iv (Tn.orM atv atm btv btm)))).setCell ⟨w1.heap.size, 2, none⟩ (.int .u64 aul)) (w.heap.size + 1) #[(.int .u64 (iv btv)), (.int .u64 (iv btm)), (.int .u64 bul), (.int .u64 buh), (.int .i64 bsl), (.int .i64 bsh), (.int .u64 bwl), (.int .u64 bwh), (.int .i64 bvl), (.int .i64 bvh)] 30) := (HB4.out.other (by omega) (.int .u64 aul))
  have HR5 : Hid (AtA (((w2.setCell ⟨w1.heap.size, 0, none⟩ (.int .u64 (iv (atv ||| btv)))).setCell ⟨w1.heap.size, 1, none⟩ (.int .u64 (iv (Tn.orM atv atm btv btm)))).setCell ⟨w1.heap.size, 2, none⟩ (.int .u64 aul)) (w.heap.size + 1 + 1) #[(.int .u64 0), (.int .u64 0), (.int .u64 0), (.int .u64 0), (.int .i64 0), (.int .i64 0), (.int .u64 0), (.int .u64 0), (.int .i64 0), (.int .i64 0)] 30) := (HR4.out.other (by omega) (.int .u64 aul))
  have HX5 : Hid (AtA (((w2.setCell ⟨w1.heap.size, 0, none⟩ (.int .u64 (iv (atv ||| btv)))).setCell ⟨w1.heap.size, 1, none⟩ (.int .u64 (iv (Tn.orM atv atm btv btm)))).setCell ⟨w1.heap.size, 2, none⟩ (.int .u64 aul)) w1.heap.size #[(.int .u64 (iv (atv ||| btv))), (.int .u64 (iv (Tn.orM atv atm btv btm))), (.int .u64 aul), (.int .u64 18446744073709551615), (.int .i64 (-9223372036854775808)), (.int .i64 9223372036854775807), (.int .u64 0), (.int .u64 4294967295), (.int .i64 (-2147483648)), (.int .i64 2147483647)] 30) := by have h := (HX4.out.st 2 (.int .u64 aul)); simp only [List.setIfInBounds_toArray, List.set_cons_zero, List.set_cons_succ] at h; exact h
  have HG5 : Hid (Gr w (((w2.setCell ⟨w1.heap.size, 0, none⟩ (.int .u64 (iv (atv ||| btv)))).setCell ⟨w1.heap.size, 1, none⟩ (.int .u64 (iv (Tn.orM atv atm btv btm)))).setCell ⟨w1.heap.size, 2, none⟩ (.int .u64 aul))) := (HG4.out.set (by omega) (.int .u64 aul))
  clear HA4 HB4 HR4 HX4 HG4
  have k13 := HA5.out.cell 6
  have k14 := HB5.out.cell 6
  simp only [List.getElem?_toArray, List.getElem?_cons_zero, List.getElem?_cons_succ] at k13 k14
  have k15 := HX5.out.f 6
  have k16 := HX5.out.cell 6
  simp only [List.getElem?_toArray, List.getElem?_cons_zero, List.getElem?_cons_succ] at k16
  go_upto_region 5 with fail
  all_goals first | omega | skip
  clear k13 k14 k15 k16
  have HA6 : Hid (AtA ((((w2.setCell ⟨w1.heap.size, 0, none⟩ (.int .u64 (iv (atv ||| btv)))).setCell ⟨w1.heap.size, 1, none⟩ (.int .u64 (iv (Tn.orM atv atm btv btm)))).setCell ⟨w1.heap.size, 2, none⟩ (.int .u64 aul)).setCell ⟨w1.heap.size, 6, none⟩ (.int .u64 bwl)) w.heap.size #[(.int .u64 (iv atv)), (.int .u64 (iv atm)), (.int .u64 aul), (.int .u64 auh), (.int .i64 asl), (.int .i64 ash), (.int .u64 awl), (.int .u64 awh), (.int .i64 avl), (.int .i64 avh)] 30) := (HA5.out.other (by omega) (.int .u64 bwl))
  have HB6 : Hid (AtA ((((w2.setCell ⟨w1.heap.size, 0, none⟩ (.int .u64 (iv (atv ||| btv)))).setCell ⟨w1.heap.size, 1, none⟩ (.int .u64 (iv (Tn.orM atv atm btv btm)))).setCell ⟨w1.heap.size, 2, none⟩ (.int .u64 aul)).setCell ⟨w1.heap.size, 6, none⟩ (.int .u64 bwl)) (w.heap.size + 1) #[(.int .u64 (iv btv)), (.int .u64 (iv btm)), (.int .u64 bul), (.int .u64 buh), (.int .i64 bsl), (.int .i64 bsh), (.int .u64 bwl), (.int .u64 bwh), (.int .i64 bvl), (.int .i64 bvh)] 30) := (HB5.out.other (by omega) (.int .u64 bwl))
  have HR6 : Hid (AtA ((((w2.setCell ⟨w1.heap.size, 0, none⟩ (.int .u64 (iv (atv ||| btv)))).setCell ⟨w1.heap.size, 1, none⟩ (.int .u64 (iv (Tn.orM atv atm btv btm)))).setCell ⟨w1.heap.size, 2, none⟩ (.int .u64 aul)).setCell ⟨w1.heap.size, 6, none⟩ (.int .u64 bwl)) (w.heap.size + 1 + 1) #[(.int .u64 0), (.int .u64 0), (.int .u64 0), (.int .u64 0), (.int .i64 0), (.int .i64 0), (.int .u64 0), (.int .u64 0), (.int .i64 0), (.int .i64 0)] 30) := (HR5.out.other (by omega) (.int .u64 bwl))
  have HX6 : Hid (AtA ((((w2.setCell ⟨w1.heap.size, 0, none⟩ (.int .u64 (iv (atv ||| btv)))).setCell ⟨w1.heap.size, 1, none⟩ (.int .u64 (iv (Tn.orM atv atm btv btm)))).setCell ⟨w1.heap.size, 2, none⟩ (.int .u64 aul)).setCell ⟨w1.heap.size, 6, none⟩ (.int .u64 bwl)) w1.heap.size #[(.int .u64 (iv (atv ||| btv))), (.int .u64 (iv (Tn.orM atv atm btv btm))), (.int .u64 aul), (.int .u64 18446744073709551615), (.int .i64 (-9223372036854775808)), (.int .i64 9223372036854775807), (.int .u64 bwl), (.int .u64 4294967295), (.int .i64 (-2147483648)), (.int .i64 2147483647)] 30) := by have h := (HX5.out.st 6 (.int .u64 bwl)); simp only [List.setIfInBounds_toArray, List.set_cons_zero, List.set_cons_succ] at h; exact h
  have HG6 : Hid (Gr w ((((w2.setCell ⟨w1.heap.size, 0, none⟩ (.int .u64 (iv (atv ||| btv)))).setCell ⟨w1.heap.size, 1, none⟩ (.int .u64 (iv (Tn.orM atv atm btv btm)))).setCell ⟨w1.heap.size, 2, none⟩ (.int .u64 aul)).setCell ⟨w1.heap.size, 6, none⟩ (.int .u64 bwl))) := (HG5.out.set (by omega) (.int .u64 bwl))
  clear HA5 HB5 HR5 HX5 HG5
  have k17 := HX6.out.cell 0
  have k18 := HX6.out.cell 1
  have k19 := HX6.out.cell 2
  have k20 := HX6.out.cell 3
  have k21 := HX6.out.cell 4
  have k22 := HX6.out.cell 5
  have k23 := HX6.out.cell 6
  have k24 := HX6.out.cell 7
  have k25 := HX6.out.cell 8
  have k26 := HX6.out.cell 9
  simp only [List.getElem?_toArray, List.getElem?_cons_zero, List.getElem?_cons_succ] at k17 k18 k19 k20 k21 k22 k23 k24 k25 k26
  go_wp2_with (first
    | (go_at_call 11; refine (sync_q _ _ _ _ _ _ _ _ _ _ r HR.out (by assumption) inU_f inS_z inS_f _).mono ?_; rintro e w3 ⟨rfl, hg⟩; have hr : Hid (AtA w3 (w.heap.size + 1 + 1) _ 30) := HR6.out.gr hg; have hG : Hid (Gr w w3) := HG6.out.trans hg; clear hg
       have f0 := (hr.out).f 0
       have f1 := (hr.out).f 1
       have f2 := (hr.out).f 2
       have f3 := (hr.out).f 3
       have f4 := (hr.out).f 4
       have f5 := (hr.out).f 5
       have f6 := (hr.out).f 6
       have f7 := (hr.out).f 7
       have f8 := (hr.out).f 8
       have f9 := (hr.out).f 9
       have d0 := (hr.out).cell 0
       have d1 := (hr.out).cell 1
       have d2 := (hr.out).cell 2
       have d3 := (hr.out).cell 3
       have d4 := (hr.out).cell 4
       have d5 := (hr.out).cell 5
       have d6 := (hr.out).cell 6
       have d7 := (hr.out).cell 7
       have d8 := (hr.out).cell 8
       have d9 := (hr.out).cell 9
       simp only [List.getElem?_toArray, List.getElem?_cons_zero, List.getElem?_cons_succ] at d0 d1 d2 d3 d4 d5 d6 d7 d8 d9
       have hz := (((((((((((hr.out).st 0 (.int .u64 (iv r.tv))).st 1 (.int .u64 (iv r.tm))).st 2 (.int .u64 r.ul)).st 3 (.int .u64 r.uh)).st 4 (.int .i64 r.sl)).st 5 (.int .i64 r.sh)).st 6 (.int .u64 r.wl)).st 7 (.int .u64 r.wh)).st 8 (.int .i64 r.vl)).st 9 (.int .i64 r.vh))
       simp only [List.setIfInBounds_toArray, List.set_cons_zero, List.set_cons_succ] at hz
       have e0 := hz.cell 0
       have e1 := hz.cell 1
       have e2 := hz.cell 2
       have e3 := hz.cell 3
       have e4 := hz.cell 4
       have e5 := hz.cell 5
       have e6 := hz.cell 6
       have e7 := hz.cell 7
       have e8 := hz.cell 8
       have e9 := hz.cell 9
       simp only [List.getElem?_toArray, List.getElem?_cons_zero, List.getElem?_cons_succ] at e0 e1 e2 e3 e4 e5 e6 e7 e8 e9
       clear hz))
  refine bodyPost_ret (by simp [results, Tryz.results129, go_sem, e0, e1, e2, e3, e4, e5, e6, e7, e8, e9]; try rfl) rfl ?_
  exact ⟨rfl, ((((((((((hG.out.set (by omega) _).set (by omega) _).set (by omega) _).set (by omega) _).set (by omega) _).set (by omega) _).set (by omega) _).set (by omega) _).set (by omega) _).set (by omega) _)⟩
set_option maxHeartbeats 4000000 in
theorem ored_2 (atv atm : BitVec 64) (aul auh asl ash awl awh avl avh : Int) (btv btm : BitVec 64) (bul buh bsl bsh bwl bwh bvl bvh : Int) (r : Bd) (hr : syncM ⟨(atv ||| btv), (Tn.orM atv atm btv btm), bul, 18446744073709551615, (-9223372036854775808), 9223372036854775807, awl, 4294967295, (-2147483648), 2147483647⟩ = r) (h1 : aul < bul) (h2 : bwl ≤ awl) (haul : InU aul) (hbul : InU bul) (w : World) : Calls Tryz.prog 129 #[.agg #[.int .u64 (iv atv), .int .u64 (iv atm), .int .u64 aul, .int .u64 auh, .int .i64 asl, .int .i64 ash, .int .u64 awl, .int .u64 awh, .int .i64 avl, .int .i64 avh], .agg #[.int .u64 (iv btv), .int .u64 (iv btm), .int .u64 bul, .int .u64 buh, .int .i64 bsl, .int .i64 bsh, .int .u64 bwl, .int .u64 bwh, .int .i64 bvl, .int .i64 bvh]] w fun e w' => e = .returned (.agg #[.int .u64 (iv r.tv), .int .u64 (iv r.tm), .int .u64 r.ul, .int .u64 r.uh, .int .i64 r.sl, .int .i64 r.sh, .int .u64 r.wl, .int .u64 r.wh, .int .i64 r.vl, .int .i64 r.vh]) ∧ Gr w w' := by
  have HR : Hid (syncM ⟨(atv ||| btv), (Tn.orM atv atm btv btm), bul, 18446744073709551615, (-9223372036854775808), 9223372036854775807, awl, 4294967295, (-2147483648), 2147483647⟩ = r) := hr
  clear hr
  go_enter Tryz.func129, Tryz.ntmps129
  go_upto_region 1 with fail
  have HA1 : Hid (AtA (((w.alloc (.cells #[.int .u64 (iv atv), .int .u64 (iv atm), .int .u64 aul, .int .u64 auh, .int .i64 asl, .int .i64 ash, .int .u64 awl, .int .u64 awh, .int .i64 avl, .int .i64 avh] 30)).alloc (.cells #[.int .u64 (iv btv), .int .u64 (iv btm), .int .u64 bul, .int .u64 buh, .int .i64 bsl, .int .i64 bsh, .int .u64 bwl, .int .u64 bwh, .int .i64 bvl, .int .i64 bvh] 30)).alloc (.cells #[.int .u64 0, .int .u64 0, .int .u64 0, .int .u64 0, .int .i64 0, .int .i64 0, .int .u64 0, .int .u64 0, .int .i64 0, .int .i64 0] 30)) w.heap.size #[(.int .u64 (iv atv)), (.int .u64 (iv atm)), (.int .u64 aul), (.int .u64 auh), (.int .i64 asl), (.int .i64 ash), (.int .u64 awl), (.int .u64 awh), (.int .i64 avl), (.int .i64 avh)] 30) := (((AtA.newb _ (by simp) _ _).alloc _).alloc _)
  have HB1 : Hid (AtA (((w.alloc (.cells #[.int .u64 (iv atv), .int .u64 (iv atm), .int .u64 aul, .int .u64 auh, .int .i64 asl, .int .i64 ash, .int .u64 awl, .int .u64 awh, .int .i64 avl, .int .i64 avh] 30)).alloc (.cells #[.int .u64 (iv btv), .int .u64 (iv btm), .int .u64 bul, .int .u64 buh, .int .i64 bsl, .int .i64 bsh, .int .u64 bwl, .int .u64 bwh, .int .i64 bvl, .int .i64 bvh] 30)).alloc (.cells #[.int .u64 0, .int .u64 0, .int .u64 0, .int .u64 0, .int .i64 0, .int .i64 0, .int .u64 0, .int .u64 0, .int .i64 0, .int .i64 0] 30)) (w.heap.size + 1) #[(.int .u64 (iv btv)), (.int .u64 (iv btm)), (.int .u64 bul), (.int .u64 buh), (.int .i64 bsl), (.int .i64 bsh), (.int .u64 bwl), (.int .u64 bwh), (.int .i64 bvl), (.int .i64 bvh)] 30) := ((AtA.newb _ (by simp) _ _).alloc _)
  have HR1 : Hid (AtA (((w.alloc (.cells #[.int .u64 (iv atv), .int .u64 (iv atm), .int .u64 aul, .int .u64 auh, .int .i64 asl, .int .i64 ash, .int .u64 awl, .int .u64 awh, .int .i64 avl, .int .i64 avh] 30)).alloc (.cells #[.int .u64 (iv btv), .int .u64 (iv btm), .int .u64 bul, .int .u64 buh, .int .i64 bsl, .int .i64 bsh, .int .u64 bwl, .int .u64 bwh, .int .i64 bvl, .int .i64 bvh] 30)).alloc (.cells #[.int .u64 0, .int .u64 0, .int .u64 0, .int .u64 0, .int .i64 0, .int .i64 0, .int .u64 0, .int .u64 0, .int .i64 0, .int .i64 0] 30)) (w.heap.size + 1 + 1) #[(.int .u64 0), (.int .u64 0), (.int .u64 0), (.int .u64 0), (.int .i64 0), (.int .i64 0), (.int .u64 0), (.int .u64 0), (.int .i64 0), (.int .i64 0)] 30) := (AtA.newb _ (by simp) _ _)
  have HG1 : Hid (Gr w (((w.alloc (.cells #[.int .u64 (iv atv), .int .u64 (iv atm), .int .u64 aul, .int .u64 auh, .int .i64 asl, .int .i64 ash, .int .u64 awl, .int .u64 awh, .int .i64 avl, .int .i64 avh] 30)).alloc (.cells #[.int .u64 (iv btv), .int .u64 (iv btm), .int .u64 bul, .int .u64 buh, .int .i64 bsl, .int .i64 bsh, .int .u64 bwl, .int .u64 bwh, .int .i64 bvl, .int .i64 bvh] 30)).alloc (.cells #[.int .u64 0, .int .u64 0, .int .u64 0, .int .u64 0, .int .i64 0, .int .i64 0, .int .u64 0, .int .u64 0, .int .i64 0, .int .i64 0] 30))) := (⟨by go_grown, by go_grown⟩ : Gr w _)
  go_upto_region 2 with (first | (go_at_call 51; refine (any_any _).mono ?_; rintro e w1 ⟨rfl, hg1⟩))
  have hsz : w.heap.size + 3 ≤ w1.heap.size := by
    have := hg1.below.size
    simp at this
    omega
  have HA2 : Hid (AtA (w1.alloc (.cells #[(.int .u64 (iv 0#64)), (.int .u64 (iv 18446744073709551615#64)), (.int .u64 0), (.int .u64 18446744073709551615), (.int .i64 (-9223372036854775808)), (.int .i64 9223372036854775807), (.int .u64 0), (.int .u64 4294967295), (.int .i64 (-2147483648)), (.int .i64 2147483647)] 30)) w.heap.size #[(.int .u64 (iv atv)), (.int .u64 (iv atm)), (.int .u64 aul), (.int .u64 auh), (.int .i64 asl), (.int .i64 ash), (.int .u64 awl), (.int .u64 awh), (.int .i64 avl), (.int .i64 avh)] 30) := (HA1.out.gr hg1).alloc _
  have HB2 : Hid (AtA (w1.alloc (.cells #[(.int .u64 (iv 0#64)), (.int .u64 (iv 18446744073709551615#64)), (.int .u64 0), (.int .u64 18446744073709551615), (.int .i64 (-9223372036854775808)), (.int .i64 9223372036854775807), (.int .u64 0), (.int .u64 4294967295), (.int .i64 (-2147483648)), (.int .i64 2147483647)] 30)) (w.heap.size + 1) #[(.int .u64 (iv btv)), (.int .u64 (iv btm)), (.int .u64 bul), (.int .u64 buh), (.int .i64 bsl), (.int .i64 bsh), (.int .u64 bwl), (.int .u64 bwh), (.int .i64 bvl), (.int .i64 bvh)] 30) := (HB1.out.gr hg1).alloc _
  have HR2 : Hid (AtA (w1.alloc (.cells #[(.int .u64 (iv 0#64)), (.int .u64 (iv 18446744073709551615#64)), (.int .u64 0), (.int .u64 18446744073709551615), (.int .i64 (-9223372036854775808)), (.int .i64 9223372036854775807), (.int .u64 0), (.int .u64 4294967295), (.int .i64 (-2147483648)), (.int .i64 2147483647)] 30)) (w.heap.size + 1 + 1) #[(.int .u64 0), (.int .u64 0), (.int .u64 0), (.int .u64 0), (.int .i64 0), (.int .i64 0), (.int .u64 0), (.int .u64 0), (.int .i64 0), (.int .i64 0)] 30) := (HR1.out.gr hg1).alloc _
  have HX2 : Hid (AtA (w1.alloc (.cells #[(.int .u64 (iv 0#64)), (.int .u64 (iv 18446744073709551615#64)), (.int .u64 0), (.int .u64 18446744073709551615), (.int .i64 (-9223372036854775808)), (.int .i64 9223372036854775807), (.int .u64 0), (.int .u64 4294967295), (.int .i64 (-2147483648)), (.int .i64 2147483647)] 30)) w1.heap.size #[(.int .u64 (iv 0#64)), (.int .u64 (iv 18446744073709551615#64)), (.int .u64 0), (.int .u64 18446744073709551615), (.int .i64 (-9223372036854775808)), (.int .i64 9223372036854775807), (.int .u64 0), (.int .u64 4294967295), (.int .i64 (-2147483648)), (.int .i64 2147483647)] 30) := AtA.newb _ rfl _ _
  have HG2 : Hid (Gr w (w1.alloc (.cells #[(.int .u64 (iv 0#64)), (.int .u64 (iv 18446744073709551615#64)), (.int .u64 0), (.int .u64 18446744073709551615), (.int .i64 (-9223372036854775808)), (.int .i64 9223372036854775807), (.int .u64 0), (.int .u64 4294967295), (.int .i64 (-2147483648)), (.int .i64 2147483647)] 30))) := (HG1.out.trans hg1).alloc _ _
  clear HA1 HB1 HR1 HG1
  clear hg1
  have k1 := HA2.out.cell 0
  have k2 := HA2.out.cell 1
  have k3 := HB2.out.cell 0
  have k4 := HB2.out.cell 1
  simp only [List.getElem?_toArray, List.getElem?_cons_zero, List.getElem?_cons_succ] at k1 k2 k3 k4
  go_upto_region 3 with (first | (go_at_call 192; refine (cv (Tn.or_any _ _ _ _ _)).mono ?_; rintro e w2 ⟨rfl, hg2⟩ ; have hx2 : Hid (AtA w2 w1.heap.size #[(.int .u64 (iv 0#64)), (.int .u64 (iv 18446744073709551615#64)), (.int .u64 0), (.int .u64 18446744073709551615), (.int .i64 (-9223372036854775808)), (.int .i64 9223372036854775807), (.int .u64 0), (.int .u64 4294967295), (.int .i64 (-2147483648)), (.int .i64 2147483647)] 30) := (HX2.out.gr hg2); have k5 := hx2.out.f 0; have k6 := hx2.out.cell 0; have k7 := hx2.out.f 1; have k8 := hx2.out.cell 1; simp only [List.getElem?_toArray, List.getElem?_cons_zero, List.getElem?_cons_succ] at k6 k8))
  clear k1 k2 k3 k4 k5 k6 k7 k8
  have HA3 : Hid (AtA w2 w.heap.size #[(.int .u64 (iv atv)), (.int .u64 (iv atm)), (.int .u64 aul), (.int .u64 auh), (.int .i64 asl), (.int .i64 ash), (.int .u64 awl), (.int .u64 awh), (.int .i64 avl), (.int .i64 avh)] 30) := (HA2.out.gr hg2)
  have HB3 : Hid (AtA w2 (w.heap.size + 1) #[(.int .u64 (iv btv)), (.int .u64 (iv btm)), (.int .u64 bul), (.int .u64 buh), (.int .i64 bsl), (.int .i64 bsh), (.int .u64 bwl), (.int .u64 bwh), (.int .i64 bvl), (.int .i64 bvh)] 30) := (HB2.out.gr hg2)
  have HR3 : Hid (AtA w2 (w.heap.size + 1 + 1) #[(.int .u64 0), (.int .u64 0), (.int .u64 0), (.int .u64 0), (.int .i64 0), (.int .i64 0), (.int .u64 0), (.int .u64 0), (.int .i64 0), (.int .i64 0)] 30) := (HR2.out.gr hg2)
  have HX3 : Hid (AtA w2 w1.heap.size #[(.int .u64 (iv 0#64)), (.int .u64 (iv 18446744073709551615#64)), (.int .u64 0), (.int .u64 18446744073709551615), (.int .i64 (-9223372036854775808)), (.int .i64 9223372036854775807), (.int .u64 0), (.int .u64 4294967295), (.int .i64 (-2147483648)), (.int .i64 2147483647)] 30) := (HX2.out.gr hg2)
  have HG3 : Hid (Gr w w2) := (HG2.out.trans hg2)
  clear HA2 HB2 HR2 HX2 HG2
  clear hx2 hg2
  have HA4 : Hid (AtA ((w2.setCell ⟨w1.heap.size, 0, none⟩ (.int .u64 (iv (atv ||| btv)))).setCell ⟨w1.heap.size, 1, none⟩ (.int .u64 (iv (Tn.orM atv atm btv btm)))) w.heap.size #[(.int .u64 (iv atv)), (.int .u64 (iv atm)), (.int .u64 aul), (.int .u64 auh), (.int .i64 asl), (.int .i64 ash), (.int .u64 awl), (.int .u64 awh), (.int .i64 avl), (.int .i64 avh)] 30) := ((HA3.out.other (by omega) (.int .u64 (iv (atv ||| btv)))).other (by omega) (.int .u64 (iv (Tn.orM atv atm btv btm))))
  have HB4 : Hid (AtA ((w2.setCell ⟨w1.heap.size, 0, none⟩ (.int .u64 (iv (atv ||| btv)))).setCell ⟨w1.heap.size, 1, none⟩ (.int .u64 (iv (Tn.orM atv atm btv btm)))) (w.heap.size + 1) #[(.int .u64 (iv btv)), (.int .u64 (iv btm)), (.int .u64 bul), (.int .u64 buh), (.int .i64 bsl), (.int .i64 bsh), (.int .u64 bwl), (.int .u64 bwh), (.int .i64 bvl), (.int .i64 bvh)] 30) := ((HB3.out.other (by omega) (.int .u64 (iv (atv ||| btv)))).other (by omega) (.int .u64 (iv (Tn.orM atv atm btv btm))))
  have HR4 : Hid (AtA ((w2.setCell ⟨w1.heap.size, 0, none⟩ (.int .u64 (iv (atv ||| btv)))).setCell ⟨w1.heap.size, 1, none⟩ (.int .u64 (iv (Tn.orM atv atm btv btm)))) (w.heap.size + 1 + 1) #[(.int .u64 0), (.int .u64 0), (.int .u64 0), (.int .u64 0), (.int .i64 0), (.int .i64 0), (.int .u64 0), (.int .u64 0), (.int .i64 0), (.int .i64 0)] 30) := ((HR3.out.other (by omega) (.int .u64 (iv (atv ||| btv)))).other (by omega) (.int .u64 (iv (Tn.orM atv atm btv btm))))
  have HX4 : Hid (AtA ((w2.setCell ⟨w1.heap.size, 0, none⟩ (.int .u64 (iv (atv ||| btv)))).setCell ⟨w1.heap.size, 1, none⟩ (.int .u64 (iv (Tn.orM atv atm btv btm)))) w1.heap.size #[(.int .u64 (iv (atv ||| btv))), (.int .u64 (iv (Tn.orM atv atm btv btm))), (.int .u64 0), (.int .u64 18446744073709551615), (.int .i64 (-9223372036854775808)), (.int .i64 9223372036854775807), (.int .u64 0), (.int .u64 4294967295), (.int .i64 (-2147483648)), (.int .i64 2147483647)] 30) := by have h := ((HX3.out.st 0 (.int .u64 (iv (atv ||| btv)))).st 1 (.int .u64 (iv (Tn.orM atv atm btv btm)))); simp only [List.setIfInBounds_toArray, List.set_cons_zero, List.set_cons_succ] at h; exact h
  have HG4 : Hid (Gr w ((w2.setCell ⟨w1.heap.size, 0, none⟩ (.int .u64 (iv (atv ||| btv)))).setCell ⟨w1.heap.size, 1, none⟩ (.int .u64 (iv (Tn.orM atv atm btv btm))))) := ((HG3.out.set (by omega) (.int .u64 (iv (atv ||| btv)))).set (by omega) (.int .u64 (iv (Tn.orM atv atm btv btm))))
  clear HA3 HB3 HR3 HX3 HG3
  have k9 := HA4.out.cell 2
  have k10 := HB4.out.cell 2
  simp only [List.getElem?_toArray, List.getElem?_cons_zero, List.getElem?_cons_succ] at k9 k10
  have k11 := HX4.out.f 2
  have k12 := HX4.out.cell 2
  simp only [List.getElem?_toArray, List.getElem?_cons_zero, List.getElem?_cons_succ] at k12
  go_upto_region 4 with fail
  all_goals first | omega | skip
  clear k9 k10 k11 k12
  have HA5 : Hid (AtA (((w2.setCell ⟨w1.heap.size, 0, none⟩ (.int .u64 (iv (atv ||| btv)))).setCell ⟨w1.heap.size, 1, none⟩ (.int .u64 (iv (Tn.orM atv atm btv btm)))).setCell ⟨w1.heap.size, 2, none⟩ (.int .u64 bul)) w.heap.size #[(.int .u64 (iv atv)), (.int .u64 (iv atm)), (.int .u64 aul), (.int .u64 auh), (.int .i64 asl), (.int .i64 ash), (.int .u64 awl), (.int .u64 awh), (.int .i64 avl), (.int .i64 avh)] 30) := (HA4.out.other (by omega) (.int .u64 bul))
  have HB5 : Hid (AtA (((w2.setCell ⟨w1.heap.size, 0, none⟩ (.int .u64 (iv (atv ||| btv)))).setCell ⟨w1.heap.size, 1, none⟩ (.int .u64 (iv (Tn.orM atv atm btv btm)))).setCell ⟨w1.heap.size, 2, none⟩ (.int .u64 bul)) (w.heap.size + 1) #[(.int .u64 (iv btv)), (.int .u64 (iv btm)), (.int .u64 bul), (.int .u64 buh), (.int .i64 bsl), (.int .i64 bsh), (.int .u64 bwl), (.int .u64 bwh), (.int .i64 bvl), (.int .i64 bvh)] 30) := (HB4.out.other (by omega) (.int .u64 bul))
  have HR5 : Hid (AtA (((w2.setCell ⟨w1.heap.size, 0, none⟩ (.int .u64 (iv (atv ||| btv)))).setCell ⟨w1.heap.size, 1, none⟩ (.int .u64 (iv (Tn.orM atv atm btv btm)))).setCell ⟨w1.heap.size, 2, none⟩ (.int .u64 bul)) (w.heap.size + 1 + 1) #[(.int .u64 0), (.int .u64 0), (.int .u64 0), (.int .u64 0), (.int .i64 0), (.int .i64 0), (.int .u64 0), (.int .u64 0), (.int .i64 0), (.int .i64 0)] 30) := (HR4.out.other (by omega) (.int .u64 bul))
  have HX5 : Hid (AtA (((w2.setCell ⟨w1.heap.size, 0, none⟩ (.int .u64 (iv (atv ||| btv)))).setCell ⟨w1.heap.size, 1, none⟩ (.int .u64 (iv (Tn.orM atv atm btv btm)))).setCell ⟨w1.heap.size, 2, none⟩ (.int .u64 bul)) w1.heap.size #[(.int .u64 (iv (atv ||| btv))), (.int .u64 (iv (Tn.orM atv atm btv btm))), (.int .u64 bul), (.int .u64 18446744073709551615), (.int .i64 (-9223372036854775808)), (.int .i64 9223372036854775807), (.int .u64 0), (.int .u64 4294967295), (.int .i64 (-2147483648)), (.int .i64 2147483647)] 30) := by have h := (HX4.out.st 2 (.int .u64 bul)); simp only [List.setIfInBounds_toArray, List.set_cons_zero, List.set_cons_succ] at h; exact h
  have HG5 : Hid (Gr w (((w2.setCell ⟨w1.heap.size, 0, none⟩ (.int .u64 (iv (atv ||| btv)))).setCell ⟨w1.heap.size, 1, none⟩ (.int .u64 (iv (Tn.orM atv atm btv btm)))).setCell ⟨w1.heap.size, 2, none⟩ (.int .u64 bul))) := (HG4.out.set (by omega) (.int .u64 bul))
  clear HA4 HB4 HR4 HX4 HG4
  have k13 := HA5.out.cell 6
  have k14 := HB5.out.cell 6
  simp only [List.getElem?_toArray, List.getElem?_cons_zero, List.getElem?_cons_succ] at k13 k14
  have k15 := HX5.out.f 6
  have k16 := HX5.out.cell 6
  simp only [List.getElem?_toArray, List.getElem?_cons_zero, List.getElem?_cons_succ] at k16
  go_upto_region 5 with fail
  all_goals first | omega | skip
  clear k13 k14 k15 k16
  have HA6 : Hid (AtA ((((w2.setCell ⟨w1.heap.size, 0, none⟩ (.int .u64 (iv (atv ||| btv)))).setCell ⟨w1.heap.size, 1, none⟩ (.int .u64 (iv (Tn.orM atv atm btv btm)))).setCell ⟨w1.heap.size, 2, none⟩ (.int .u64 bul)).setCell ⟨w1.heap.size, 6, none⟩ (.int .u64 awl)) w.heap.size #[(.int .u64 (iv atv)), (.int .u64 (iv atm)), (.int .u64 aul), (.int .u64 auh), (.int .i64 asl), (.int .i64 ash), (.int .u64 awl), (.int .u64 awh), (.int .i64 avl), (.int .i64 avh)] 30) := (HA5.out.other (by omega) (.int .u64 awl))
  have HB6 : Hid (AtA ((((w2.setCell ⟨w1.heap.size, 0, none⟩ (.int .u64 (iv (atv ||| btv)))).setCell ⟨w1.heap.size, 1, none⟩ (.int .u64 (iv (Tn.orM atv atm btv btm)))).setCell ⟨w1.heap.size, 2, none⟩ (.int .u64 bul)).setCell ⟨w1.heap.size, 6, none⟩ (.int .u64 awl)) (w.heap.size + 1) #[(.int .u64 (iv btv)), (.int .u64 (iv btm)), (.int .u64 bul), (.int .u64 buh), (.int .i64 bsl), (.int .i64 bsh), (.int .u64 bwl), (.int .u64 bwh), (.int .i64 bvl), (.int .i64 bvh)] 30) := (HB5.out.other (by omega) (.int .u64 awl))
  have HR6 : Hid (AtA ((((w2.setCell ⟨w1.heap.size, 0, none⟩ (.int .u64 (iv (atv ||| btv)))).setCell ⟨w1.heap.size, 1, none⟩ (.int .u64 (iv (Tn.orM atv atm btv btm)))).setCell ⟨w1.heap.size, 2, none⟩ (.int .u64 bul)).setCell ⟨w1.heap.size, 6, none⟩ (.int .u64 awl)) (w.heap.size + 1 + 1) #[(.int .u64 0), (.int .u64 0), (.int .u64 0), (.int .u64 0), (.int .i64 0), (.int .i64 0), (.int .u64 0), (.int .u64 0), (.int .i64 0), (.int .i64 0)] 30) := (HR5.out.other (by omega) (.int .u64 awl))
  have HX6 : Hid (AtA ((((w2.setCell ⟨w1.heap.size, 0, none⟩ (.int .u64 (iv (atv ||| btv)))).setCell ⟨w1.heap.size, 1, none⟩ (.int .u64 (iv (Tn.orM atv atm btv btm)))).setCell ⟨w1.heap.size, 2, none⟩ (.int .u64 bul)).setCell ⟨w1.heap.size, 6, none⟩ (.int .u64 awl)) w1.heap.size #[(.int .u64 (iv (atv ||| btv))), (.int .u64 (iv (Tn.orM atv atm btv btm))), (.int .u64 bul), (.int .u64 18446744073709551615), (.int .i64 (-9223372036854775808)), (.int .i64 9223372036854775807), (.int .u64 awl), (.int .u64 4294967295), (.int .i64 (-2147483648)), (.int .i64 2147483647)] 30) := by have h := (HX5.out.st 6 (.int .u64 awl)); simp only [List.setIfInBounds_toArray, List.set_cons_zero, List.set_cons_succ] at h; exact h
  have HG6 : Hid (Gr w ((((w2.setCell ⟨w1.heap.size, 0, none⟩ (.int .u64 (iv (atv ||| btv)))).setCell ⟨w1.heap.size, 1, none⟩ (.int .u64 (iv (Tn.orM atv atm btv btm)))).setCell ⟨w1.heap.size, 2, none⟩ (.int .u64 bul)).setCell ⟨w1.heap.size, 6, none⟩ (.int .u64 awl))) := (HG5.out.set (by omega) (.int .u64 awl))
  clear HA5 HB5 HR5 HX5 HG5
  have k17 := HX6.out.cell 0
  have k18 := HX6.out.cell 1
  have k19 := HX6.out.cell 2
  have k20 := HX6.out.cell 3
  have k21 := HX6.out.cell 4
  have k22 := HX6.out.cell 5
  have k23 := HX6.out.cell 6
  have k24 := HX6.out.cell 7
  have k25 := HX6.out.cell 8
  have k26 := HX6.out.cell 9
  simp only [List.getElem?_toArray, List.getElem?_cons_zero, List.getElem?_cons_succ] at k17 k18 k19 k20 k21 k22 k23 k24 k25 k26
  go_wp2_with (first
    | (go_at_call 11; refine (sync_q _ _ _ _ _ _ _ _ _ _ r HR.out (by assumption) inU_f inS_z inS_f _).mono ?_; rintro e w3 ⟨rfl, hg⟩; have hr : Hid (AtA w3 (w.heap.size + 1 + 1) _ 30) := HR6.out.gr hg; have hG : Hid (Gr w w3) := HG6.out.trans hg; clear hg
       have f0 := (hr.out).f 0
       have f1 := (hr.out).f 1
       have f2 := (hr.out).f 2
       have f3 := (hr.out).f 3
       have f4 := (hr.out).f 4
       have f5 := (hr.out).f 5
       have f6 := (hr.out).f 6
       have f7 := (hr.out).f 7
       have f8 := (hr.out).f 8
       have f9 := (hr.out).f 9
       have d0 := (hr.out).cell 0
       have d1 := (hr.out).cell 1
       have d2 := (hr.out).cell 2
       have d3 := (hr.out).cell 3
       have d4 := (hr.out).cell 4
       have d5 := (hr.out).cell 5
       have d6 := (hr.out).cell 6
       have d7 := (hr.out).cell 7
       have d8 := (hr.out).cell 8
       have d9 := (hr.out).cell 9
       simp only [List.getElem?_toArray, List.getElem?_cons_zero, List.getElem?_cons_succ] at d0 d1 d2 d3 d4 d5 d6 d7 d8 d9
       have hz := (((((((((((hr.out).st 0 (.int .u64 (iv r.tv))).st 1 (.int .u64 (iv r.tm))).st 2 (.int .u64 r.ul)).st 3 (.int .u64 r.uh)).st 4 (.int .i64 r.sl)).st 5 (.int .i64 r.sh)).st 6 (.int .u64 r.wl)).st 7 (.int .u64 r.wh)).st 8 (.int .i64 r.vl)).st 9 (.int .i64 r.vh))
       simp only [List.setIfInBounds_toArray, List.set_cons_zero, List.set_cons_succ] at hz
       have e0 := hz.cell 0
       have e1 := hz.cell 1
       have e2 := hz.cell 2
       have e3 := hz.cell 3
       have e4 := hz.cell 4
       have e5 := hz.cell 5
       have e6 := hz.cell 6
       have e7 := hz.cell 7
       have e8 := hz.cell 8
       have e9 := hz.cell 9
       simp only [List.getElem?_toArray, List.getElem?_cons_zero, List.getElem?_cons_succ] at e0 e1 e2 e3 e4 e5 e6 e7 e8 e9
       clear hz))
  refine bodyPost_ret (by simp [results, Tryz.results129, go_sem, e0, e1, e2, e3, e4, e5, e6, e7, e8, e9]; try rfl) rfl ?_
  exact ⟨rfl, ((((((((((hG.out.set (by omega) _).set (by omega) _).set (by omega) _).set (by omega) _).set (by omega) _).set (by omega) _).set (by omega) _).set (by omega) _).set (by omega) _).set (by omega) _)⟩
set_option maxHeartbeats 4000000 in
theorem ored_3 (atv atm : BitVec 64) (aul auh asl ash awl awh avl avh : Int) (btv btm : BitVec 64) (bul buh bsl bsh bwl bwh bvl bvh : Int) (r : Bd) (hr : syncM ⟨(atv ||| btv), (Tn.orM atv atm btv btm), bul, 18446744073709551615, (-9223372036854775808), 9223372036854775807, bwl, 4294967295, (-2147483648), 2147483647⟩ = r) (h1 : aul < bul) (h2 : awl < bwl) (haul : InU aul) (hbul : InU bul) (w : World) : Calls Tryz.prog 129 #[.agg #[.int .u64 (iv atv), .int .u64 (iv atm), .int .u64 aul, .int .u64 auh, .int .i64 asl, .int .i64 ash, .int .u64 awl, .int .u64 awh, .int .i64 avl, .int .i64 avh], .agg #[.int .u64 (iv btv), .int .u64 (iv btm), .int .u64 bul, .int .u64 buh, .int .i64 bsl, .int .i64 bsh, .int .u64 bwl, .int .u64 bwh, .int .i64 bvl, .int .i64 bvh]] w fun e w' => e = .returned (.agg #[.int .u64 (iv r.tv), .int .u64 (iv r.tm), .int .u64 r.ul, .int .u64 r.uh, .int .i64 r.sl, .int .i64 r.sh, .int .u64 r.wl, .int .u64 r.wh, .int .i64 r.vl, .int .i64 r.vh]) ∧ Gr w w' := by
  have HR : Hid (syncM ⟨(atv ||| btv), (Tn.orM atv atm btv btm), bul, 18446744073709551615, (-9223372036854775808), 9223372036854775807, bwl, 4294967295, (-2147483648), 2147483647⟩ = r) := hr
  clear hr
  go_enter Tryz.func129, Tryz.ntmps129
  go_upto_region 1 with fail
  have HA1 : Hid (AtA (((w.alloc (.cells #[.int .u64 (iv atv), .int .u64 (iv atm), .int .u64 aul, .int .u64 auh, .int .i64 asl, .int .i64 ash, .int .u64 awl, .int .u64 awh, .int .i64 avl, .int .i64 avh] 30)).alloc (.cells #[.int .u64 (iv btv), .int .u64 (iv btm), .int .u64 bul, .int .u64 buh, .int .i64 bsl, .int .i64 bsh, .int .u64 bwl, .int .u64 bwh, .int .i64 bvl, .int .i64 bvh] 30)).alloc (.cells #[.int .u64 0, .int .u64 0, .int .u64 0, .int .u64 0, .int .i64 0, .int .i64 0, .int .u64 0, .int .u64 0, .int .i64 0, .int .i64 0] 30)) w.heap.size #[(.int .u64 (iv atv)), (.int .u64 (iv atm)), (.int .u64 aul), (.int .u64 auh), (.int .i64 asl), (.int .i64 ash), (.int .u64 awl), (.int .u64 awh), (.int .i64 avl), (.int .i64 avh)] 30) := (((AtA.newb _ (by simp) _ _).alloc _).alloc _)
  have HB1 : Hid (AtA (((w.alloc (.cells #[.int .u64 (iv atv), .int .u64 (iv atm), .int .u64 aul, .int .u64 auh, .int .i64 asl, .int .i64 ash, .int .u64 awl, .int .u64 awh, .int .i64 avl, .int .i64 avh] 30)).alloc (.cells #[.int .u64 (iv btv), .int .u64 (iv btm), .int .u64 bul, .int .u64 buh, .int .i64 bsl, .int .i64 bsh, .int .u64 bwl, .int .u64 bwh, .int .i64 bvl, .int .i64 bvh] 30)).alloc (.cells #[.int .u64 0, .int .u64 0, .int .u64 0, .int .u64 0, .int .i64 0, .int .i64 0, .int .u64 0, .int .u64 0, .int .i64 0, .int .i64 0] 30)) (w.heap.size + 1) #[(.int .u64 (iv btv)), (.int .u64 (iv btm)), (.int .u64 bul), (.int .u64 buh), (.int .i64 bsl), (.int .i64 bsh), (.int .u64 bwl), (.int .u64 bwh), (.int .i64 bvl), (.int .i64 bvh)] 30) := ((AtA.newb _ (by simp) _ _).alloc _)
  have HR1 : Hid (AtA (((w.alloc (.cells #[.int .u64 (iv atv), .int .u64 (iv atm), .int .u64 aul, .int .u64 auh, .int .i64 asl, .int .i64 ash, .int .u64 awl, .int .u64 awh, .int .i64 avl, .int .i64 avh] 30)).alloc (.cells #[.int .u64 (iv btv), .int .u64 (iv btm), .int .u64 bul, .int .u64 buh, .int .i64 bsl, .int .i64 bsh, .int .u64 bwl, .int .u64 bwh, .int .i64 bvl, .int .i64 bvh] 30)).alloc (.cells #[.int .u64 0, .int .u64 0, .int .u64 0, .int .u64 0, .int .i64 0, .int .i64 0, .int .u64 0, .int .u64 0, .int .i64 0, .int .i64 0] 30)) (w.heap.size + 1 + 1) #[(.int .u64 0), (.int .u64 0), (.int .u64 0), (.int .u64 0), (.int .i64 0), (.int .i64 0), (.int .u64 0), (.int .u64 0), (.int .i64 0), (.int .i64 0)] 30) := (AtA.newb _ (by simp) _ _)
  have HG1 : Hid (Gr w (((w.alloc (.cells #[.int .u64 (iv atv), .int .u64 (iv atm), .int .u64 aul, .int .u64 auh, .int .i64 asl, .int .i64 ash, .int .u64 awl, .int .u64 awh, .int .i64 avl, .int .i64 avh] 30)).alloc (.cells #[.int .u64 (iv btv), .int .u64 (iv btm), .int .u64 bul, .int .u64 buh, .int .i64 bsl, .int .i64 bsh, .int .u64 bwl, .int .u64 bwh, .int .i64 bvl, .int .i64 bvh] 30)).alloc (.cells #[.int .u64 0, .int .u64 0, .int .u64 0, .int .u64 0, .int .i64 0, .int .i64 0, .int .u64 0, .int .u64 0, .int .i64 0, .int .i64 0] 30))) := (⟨by go_grown, by go_grown⟩ : Gr w _)
  go_upto_region 2 with (first | (go_at_call 51; refine (any_any _).mono ?_; rintro e w1 ⟨rfl, hg1⟩))
  have hsz : w.heap.size + 3 ≤ w1.heap.size := by
    have := hg1.below.size
    simp at this
    omega
  have HA2 : Hid (AtA (w1.alloc (.cells #[(.int .u64 (iv 0#64)), (.int .u64 (iv 18446744073709551615#64)), (.int .u64 0), (.int .u64 18446744073709551615), (.int .i64 (-9223372036854775808)), (.int .i64 9223372036854775807), (.int .u64 0), (.int .u64 4294967295), (.int .i64 (-2147483648)), (.int .i64 2147483647)] 30)) w.heap.size #[(.int .u64 (iv atv)), (.int .u64 (iv atm)), (.int .u64 aul), (.int .u64 auh), (.int .i64 asl), (.int .i64 ash), (.int .u64 awl), (.int .u64 awh), (.int .i64 avl), (.int .i64 avh)] 30) := (HA1.out.gr hg1).alloc _
  have HB2 : Hid (AtA (w1.alloc (.cells #[(.int .u64 (iv 0#64)), (.int .u64 (iv 18446744073709551615#64)), (.int .u64 0), (.int .u64 18446744073709551615), (.int .i64 (-9223372036854775808)), (.int .i64 9223372036854775807), (.int .u64 0), (.int .u64 4294967295), (.int .i64 (-2147483648)), (.int .i64 2147483647)] 30)) (w.heap.size + 1) #[(.int .u64 (iv btv)), (.int .u64 (iv btm)), (.int .u64 bul), (.int .u64 buh), (.int .i64 bsl), (.int .i64 bsh), (.int .u64 bwl), (.int .u64 bwh), (.int .i64 bvl), (.int .i64 bvh)] 30) := (HB1.out.gr hg1).alloc _
  have HR2 : Hid (AtA (w1.alloc (.cells #[(.int .u64 (iv 0#64)), (.int .u64 (iv 18446744073709551615#64)), (.int .u64 0), (.int .u64 18446744073709551615), (.int .i64 (-9223372036854775808)), (.int .i64 9223372036854775807), (.int .u64 0), (.int .u64 4294967295), (.int .i64 (-2147483648)), (.int .i64 2147483647)] 30)) (w.heap.size + 1 + 1) #[(.int .u64 0), (.int .u64 0), (.int .u64 0), (.int .u64 0), (.int .i64 0), (.int .i64 0), (.int .u64 0), (.int .u64 0), (.int .i64 0), (.int .i64 0)] 30) := (HR1.out.gr hg1).alloc _
  have HX2 : Hid (AtA (w1.alloc (.cells #[(.int .u64 (iv 0#64)), (.int .u64 (iv 18446744073709551615#64)), (.int .u64 0), (.int .u64 18446744073709551615), (.int .i64 (-9223372036854775808)), (.int .i64 9223372036854775807), (.int .u64 0), (.int .u64 4294967295), (.int .i64 (-2147483648)), (.int .i64 2147483647)] 30)) w1.heap.size #[(.int .u64 (iv 0#64)), (.int .u64 (iv 18446744073709551615#64)), (.int .u64 0), (.int .u64 18446744073709551615), (.int .i64 (-9223372036854775808)), (.int .i64 9223372036854775807), (.int .u64 0), (.int .u64 4294967295), (.int .i64 (-2147483648)), (.int .i64 2147483647)] 30) := AtA.newb _ rfl _ _
  have HG2 : Hid (Gr w (w1.alloc (.cells #[(.int .u64 (iv 0#64)), (.int .u64 (iv 18446744073709551615#64)), (.int .u64 0), (.int .u64 18446744073709551615), (.int .i64 (-9223372036854775808)), (.int .i64 9223372036854775807), (.int .u64 0), (.int .u64 4294967295), (.int .i64 (-2147483648)), (.int .i64 2147483647)] 30))) := (HG1.out.trans hg1).alloc _ _
  clear HA1 HB1 HR1 HG1
  clear hg1
  have k1 := HA2.out.cell 0
  have k2 := HA2.out.cell 1
  have k3 := HB2.out.cell 0
  have k4 := HB2.out.cell 1
  simp only [List.getElem?_toArray, List.getElem?_cons_zero, List.getElem?_cons_succ] at k1 k2 k3 k4
  go_upto_region 3 with (first | (go_at_call 192; refine (cv (Tn.or_any _ _ _ _ _)).mono ?_; rintro e w2 ⟨rfl, hg2⟩ ; have hx2 : Hid (AtA w2 w1.heap.size #[(.int .u64 (iv 0#64)), (.int .u64 (iv 18446744073709551615#64)), (.int .u64 0), (.int .u64 18446744073709551615), (.int .i64 (-9223372036854775808)), (.int .i64 9223372036854775807), (.int .u64 0), (.int .u64 4294967295), (.int .i64 (-2147483648)), (.int .i64 2147483647)] 30) := (HX2.out.gr hg2); have k5 := hx2.out.f 0; have k6 := hx2.out.cell 0; have k7 := hx2.out.f 1; have k8 := hx2.out.cell 1; simp only [List.getElem?_toArray, List.getElem?_cons_zero, List.getElem?_cons_succ] at k6 k8))
  clear k1 k2 k3 k4 k5 k6 k7 k8
  have HA3 : Hid (AtA w2 w.heap.size #[(.int .u64 (iv atv)), (.int .u64 (iv atm)), (.int .u64 aul), (.int .u64 auh), (.int .i64 asl), (.int .i64 ash), (.int .u64 awl), (.int .u64 awh), (.int .i64 avl), (.int .i64 avh)] 30) := (HA2.out.gr hg2)
  have HB3 : Hid (AtA w2 (w.heap.size + 1) #[(.int .u64 (iv btv)), (.int .u64 (iv btm)), (.int .u64 bul), (.int .u64 buh), (.int .i64 bsl), (.int .i64 bsh), (.int .u64 bwl), (.int .u64 bwh), (.int .i64 bvl), (.int .i64 bvh)] 30) := (HB2.out.gr hg2)
  have HR3 : Hid (AtA w2 (w.heap.size + 1 + 1) #[(.int .u64 0), (.int .u64 0), (.int .u64 0), (.int .u64 0), (.int .i64 0), (.int .i64 0), (.int .u64 0), (.int .u64 0), (.int .i64 0), (.int .i64 0)] 30) := (HR2.out.gr hg2)
  have HX3 : Hid (AtA w2 w1.heap.size #[(.int .u64 (iv 0#64)), (.int .u64 (iv 18446744073709551615#64)), (.int .u64 0), (.int .u64 18446744073709551615), (.int .i64 (-9223372036854775808)), (.int .i64 9223372036854775807), (.int .u64 0), (.int .u64 4294967295), (.int .i64 (-2147483648)), (.int .i64 2147483647)] 30) := (HX2.out.gr hg2)
  have HG3 : Hid (Gr w w2) := (HG2.out.trans hg2)
  clear HA2 HB2 HR2 HX2 HG2
  clear hx2 hg2
  have HA4 : Hid (AtA ((w2.setCell ⟨w1.heap.size, 0, none⟩ (.int .u64 (iv (atv ||| btv)))).setCell ⟨w1.heap.size, 1, none⟩ (.int .u64 (iv (Tn.orM atv atm btv btm)))) w.heap.size #[(.int .u64 (iv atv)), (.int .u64 (iv atm)), (.int .u64 aul), (.int .u64 auh), (.int .i64 asl), (.int .i64 ash), (.int .u64 awl), (.int .u64 awh), (.int .i64 avl), (.int .i64 avh)] 30) := ((HA3.out.other (by omega) (.int .u64 (iv (atv ||| btv)))).other (by omega) (.int .u64 (iv (Tn.orM atv atm btv btm))))
  have HB4 : Hid (AtA ((w2.setCell ⟨w1.heap.size, 0, none⟩ (.int .u64 (iv (atv ||| btv)))).setCell ⟨w1.heap.size, 1, none⟩ (.int .u64 (iv (Tn.orM atv atm btv btm)))) (w.heap.size + 1) #[(.int .u64 (iv btv)), (.int .u64 (iv btm)), (.int .u64 bul), (.int .u64 buh), (.int .i64 bsl), (.int .i64 bsh), (.int .u64 bwl), (.int .u64 bwh), (.int .i64 bvl), (.int .i64 bvh)] 30) := ((HB3.out.other (by omega) (.int .u64 (iv (atv ||| btv)))).other (by omega) (.int .u64 (iv (Tn.orM atv atm btv btm))))
  have HR4 : Hid (AtA ((w2.setCell ⟨w1.heap.size, 0, none⟩ (.int .u64 (iv (atv ||| btv)))).setCell ⟨w1.heap.size, 1, none⟩ (.int .u64 (iv (Tn.orM atv atm btv btm)))) (w.heap.size + 1 + 1) #[(.int .u64 0), (.int .u64 0), (.int .u64 0), (.int .u64 0), (.int .i64 0), (.int .i64 0), (.int .u64 0), (.int .u64 0), (.int .i64 0), (.int .i64 0)] 30) := ((HR3.out.other (by omega) (.int .u64 (iv (atv ||| btv)))).other (by omega) (.int .u64 (iv (Tn.orM atv atm btv btm))))
  have HX4 : Hid (AtA ((w2.setCell ⟨w1.heap.size, 0, none⟩ (.int .u64 (iv (atv ||| btv)))).setCell ⟨w1.heap.size, 1, none⟩ (.int .u64 (iv (Tn.orM atv atm btv btm)))) w1.heap.size #[(.int .u64 (iv (atv ||| btv))), (.int .u64 (iv (Tn.orM atv atm btv btm))), (.int .u64 0), (.int .u64 18446744073709551615), (.int .i64 (-9223372036854775808)), (.int .i64 9223372036854775807), (.int .u64 0), (.int .u64 4294967295), (.int .i64 (-2147483648)), (.int .i64 2147483647)] 30) := by have h := ((HX3.out.st 0 (.int .u64 (iv (atv ||| btv)))).st 1 (.int .u64 (iv (Tn.orM atv atm btv btm)))); simp only [List.setIfInBounds_toArray, List.set_cons_zero, List.set_cons_succ] at h; exact h
  have HG4 : Hid (Gr w ((w2.setCell ⟨w1.heap.size, 0, none⟩ (.int .u64 (iv (atv ||| btv)))).setCell ⟨w1.heap.size, 1, none⟩ (.int .u64 (iv (Tn.orM atv atm btv btm))))) := ((HG3.out.set (by omega) (.int .u64 (iv (atv ||| btv)))).set (by omega) (.int .u64 (iv (Tn.orM atv atm btv btm))))
  clear HA3 HB3 HR3 HX3 HG3
  have k9 := HA4.out.cell 2
  have k10 := HB4.out.cell 2
  simp only [List.getElem?_toArray, List.getElem?_cons_zero, List.getElem?_cons_succ] at k9 k10
  have k11 := HX4.out.f 2
  have k12 := HX4.out.cell 2
  simp only [List.getElem?_toArray, List.getElem?_cons_zero, List.getElem?_cons_succ] at k12
  go_upto_region 4 with fail
  all_goals first | omega | skip
  clear k9 k10 k11 k12
  have HA5 : Hid (AtA (((w2.setCell ⟨w1.heap.size, 0, none⟩ (.int .u64 (iv (atv ||| btv)))).setCell ⟨w1.heap.size, 1, none⟩ (.int .u64 (iv (Tn.orM atv atm btv btm)))).setCell ⟨w1.heap.size, 2, none⟩ (.int .u64 bul)) w.heap.size #[(.int .u64 (iv atv)), (.int .u64 (iv atm)), (.int .u64 aul), (.int .u64 auh), (.int .i64 asl), (.int .i64 ash), (.int .u64 awl), (.int .u64 awh), (.int .i64 avl), (.int .i64 avh)] 30) := (HA4.out.other (by omega) (.int .u64 bul))
  have HB5 : Hid (AtA (((w2.setCell ⟨w1.heap.size, 0, none⟩ (.int .u64 (iv (atv ||| btv)))).setCell ⟨w1.heap.size, 1, none⟩ (.int .u64 (iv (Tn.orM atv atm btv btm)))).setCell ⟨w1.heap.size, 2, none⟩ (.int .u64 bul)) (w.heap.size + 1) #[(.int .u64 (iv btv)), (.int .u64 (iv btm)), (.int .u64 bul), (.int .u64 buh), (.int .i64 bsl), (.int .i64 bsh), (.int .u64 bwl), (.int .u64 bwh), (.int .i64 bvl), (.int .i64 bvh)] 30) := (HB4.out.other (by omega) (.int .u64 bul))
  have HR5 : Hid (AtA (((w2.setCell ⟨w1.heap.size, 0, none⟩ (.int .u64 (iv (atv ||| btv)))).setCell ⟨w1.heap.size, 1, none⟩ (.int .u64 (iv (Tn.orM atv atm btv btm)))).setCell ⟨w1.heap.size, 2, none⟩ (.int .u64 bul)) (w.heap.size + 1 + 1) #[(.int .u64 0), (.int .u64 0), (.int .u64 0), (.int .u64 0), (.int .i64 0), (.int .i64 0), (.int .u64 0), (.int .u64 0), (.int .i64 0), (.int .i64 0)] 30) := (HR4.out.other (by omega) (.int .u64 bul))
  have HX5 : Hid (AtA (((w2.setCell ⟨w1.heap.size, 0, none⟩ (.int .u64 (iv (atv ||| btv)))).setCell ⟨w1.heap.size, 1, none⟩ (.int .u64 (iv (Tn.orM atv atm btv btm)))).setCell ⟨w1.heap.size, 2, none⟩ (.int .u64 bul)) w1.heap.size #[(.int .u64 (iv (atv ||| btv))), (.int .u64 (iv (Tn.orM atv atm btv btm))), (.int .u64 bul), (.int .u64 18446744073709551615), (.int .i64 (-9223372036854775808)), (.int .i64 9223372036854775807), (.int .u64 0), (.int .u64 4294967295), (.int .i64 (-2147483648)), (.int .i64 2147483647)] 30) := by have h := (HX4.out.st 2 (.int .u64 bul)); simp only [List.setIfInBounds_toArray, List.set_cons_zero, List.set_cons_succ] at h; exact h
  have HG5 : Hid (Gr w (((w2.setCell ⟨w1.heap.size, 0, none⟩ (.int .u64 (iv (atv ||| btv)))).setCell ⟨w1.heap.size, 1, none⟩ (.int .u64 (iv (Tn.orM atv atm btv btm)))).setCell ⟨w1.heap.size, 2, none⟩ (.int .u64 bul))) := (HG4.out.set (by omega) (.int .u64 bul))
  clear HA4 HB4 HR4 HX4 HG4
  have k13 := HA5.out.cell 6
  have k14 := HB5.out.cell 6
  simp only [List.getElem?_toArray, List.getElem?_cons_zero, List.getElem?_cons_succ] at k13 k14
  have k15 := HX5.out.f 6
  have k16 := HX5.out.cell 6
  simp only [List.getElem?_toArray, List.getElem?_cons_zero, List.getElem?_cons_succ] at k16
  go_upto_region 5 with fail
  all_goals first | omega | skip
  clear k13 k14 k15 k16
  have HA6 : Hid (AtA ((((w2.setCell ⟨w1.heap.size, 0, none⟩ (.int .u64 (iv (atv ||| btv)))).setCell ⟨w1.heap.size, 1, none⟩ (.int .u64 (iv (Tn.orM atv atm btv btm)))).setCell ⟨w1.heap.size, 2, none⟩ (.int .u64 bul)).setCell ⟨w1.heap.size, 6, none⟩ (.int .u64 bwl)) w.heap.size #[(.int .u64 (iv atv)), (.int .u64 (iv atm)), (.int .u64 aul), (.int .u64 auh), (.int .i64 asl), (.int .i64 ash), (.int .u64 awl), (.int .u64 awh), (.int .i64 avl), (.int .i64 avh)] 30) := (HA5.out.other (by omega) (.int .u64 bwl))
  have HB6 : Hid (AtA ((((w2.setCell ⟨w1.heap.size, 0, none⟩ (.int .u64 (iv (atv ||| btv)))).setCell ⟨w1.heap.size, 1, none⟩ (.int .u64 (iv (Tn.orM atv atm btv btm)))).setCell ⟨w1.heap.size, 2, none⟩ (.int .u64 bul)).setCell ⟨w1.heap.size, 6, none⟩ (.int .u64 bwl)) (w.heap.size + 1) #[(.int .u64 (iv btv)), (.int .u64 (iv btm)), (.int .u64 bul), (.int .u64 buh), (.int .i64 bsl), (.int .i64 bsh), (.int .u64 bwl), (.int .u64 bwh), (.int .i64 bvl), (.int .i64 bvh)] 30) := (HB5.out.other (by omega) (.int .u64 bwl))
  have HR6 : Hid (AtA ((((w2.setCell ⟨w1.heap.size, 0, none⟩ (.int .u64 (iv (atv ||| btv)))).setCell ⟨w1.heap.size, 1, none⟩ (.int .u64 (iv (Tn.orM atv atm btv btm)))).setCell ⟨w1.heap.size, 2, none⟩ (.int .u64 bul)).setCell ⟨w1.heap.size, 6, none⟩ (.int .u64 bwl)) (w.heap.size + 1 + 1) #[(.int .u64 0), (.int .u64 0), (.int .u64 0), (.int .u64 0), (.int .i64 0), (.int .i64 0), (.int .u64 0), (.int .u64 0), (.int .i64 0), (.int .i64 0)] 30) := (HR5.out.other (by omega) (.int .u64 bwl))
  have HX6 : Hid (AtA ((((w2.setCell ⟨w1.heap.size, 0, none⟩ (.int .u64 (iv (atv ||| btv)))).setCell ⟨w1.heap.size, 1, none⟩ (.int .u64 (iv (Tn.orM atv atm btv btm)))).setCell ⟨w1.heap.size, 2, none⟩ (.int .u64 bul)).setCell ⟨w1.heap.size, 6, none⟩ (.int .u64 bwl)) w1.heap.size #[(.int .u64 (iv (atv ||| btv))), (.int .u64 (iv (Tn.orM atv atm btv btm))), (.int .u64 bul), (.int .u64 18446744073709551615), (.int .i64 (-9223372036854775808)), (.int .i64 9223372036854775807), (.int .u64 bwl), (.int .u64 4294967295), (.int .i64 (-2147483648)), (.int .i64 2147483647)] 30) := by have h := (HX5.out.st 6 (.int .u64 bwl)); simp only [List.setIfInBounds_toArray, List.set_cons_zero, List.set_cons_succ] at h; exact h
  have HG6 : Hid (Gr w ((((w2.setCell ⟨w1.heap.size, 0, none⟩ (.int .u64 (iv (atv ||| btv)))).setCell ⟨w1.heap.size, 1, none⟩ (.int .u64 (iv (Tn.orM atv atm btv btm)))).setCell ⟨w1.heap.size, 2, none⟩ (.int .u64 bul)).setCell ⟨w1.heap.size, 6, none⟩ (.int .u64 bwl))) := (HG5.out.set (by omega) (.int .u64 bwl))
  clear HA5 HB5 HR5 HX5 HG5
  have k17 := HX6.out.cell 0
  have k18 := HX6.out.cell 1
  have k19 := HX6.out.cell 2
  have k20 := HX6.out.cell 3
  have k21 := HX6.out.cell 4
  have k22 := HX6.out.cell 5
  have k23 := HX6.out.cell 6
  have k24 := HX6.out.cell 7
  have k25 := HX6.out.cell 8
  have k26 := HX6.out.cell 9
  simp only [List.getElem?_toArray, List.getElem?_cons_zero, List.getElem?_cons_succ] at k17 k18 k19 k20 k21 k22 k23 k24 k25 k26
  go_wp2_with (first
    | (go_at_call 11; refine (sync_q _ _ _ _ _ _ _ _ _ _ r HR.out (by assumption) inU_f inS_z inS_f _).mono ?_; rintro e w3 ⟨rfl, hg⟩; have hr : Hid (AtA w3 (w.heap.size + 1 + 1) _ 30) := HR6.out.gr hg; have hG : Hid (Gr w w3) := HG6.out.trans hg; clear hg
       have f0 := (hr.out).f 0
       have f1 := (hr.out).f 1
       have f2 := (hr.out).f 2
       have f3 := (hr.out).f 3
       have f4 := (hr.out).f 4
       have f5 := (hr.out).f 5
       have f6 := (hr.out).f 6
       have f7 := (hr.out).f 7
       have f8 := (hr.out).f 8
       have f9 := (hr.out).f 9
       have d0 := (hr.out).cell 0
       have d1 := (hr.out).cell 1
       have d2 := (hr.out).cell 2
       have d3 := (hr.out).cell 3
       have d4 := (hr.out).cell 4
       have d5 := (hr.out).cell 5
       have d6 := (hr.out).cell 6
       have d7 := (hr.out).cell 7
       have d8 := (hr.out).cell 8
       have d9 := (hr.out).cell 9
       simp only [List.getElem?_toArray, List.getElem?_cons_zero, List.getElem?_cons_succ] at d0 d1 d2 d3 d4 d5 d6 d7 d8 d9
       have hz := (((((((((((hr.out).st 0 (.int .u64 (iv r.tv))).st 1 (.int .u64 (iv r.tm))).st 2 (.int .u64 r.ul)).st 3 (.int .u64 r.uh)).st 4 (.int .i64 r.sl)).st 5 (.int .i64 r.sh)).st 6 (.int .u64 r.wl)).st 7 (.int .u64 r.wh)).st 8 (.int .i64 r.vl)).st 9 (.int .i64 r.vh))
       simp only [List.setIfInBounds_toArray, List.set_cons_zero, List.set_cons_succ] at hz
       have e0 := hz.cell 0
       have e1 := hz.cell 1
       have e2 := hz.cell 2
       have e3 := hz.cell 3
       have e4 := hz.cell 4
       have e5 := hz.cell 5
       have e6 := hz.cell 6
       have e7 := hz.cell 7
       have e8 := hz.cell 8
       have e9 := hz.cell 9
       simp only [List.getElem?_toArray, List.getElem?_cons_zero, List.getElem?_cons_succ] at e0 e1 e2 e3 e4 e5 e6 e7 e8 e9
       clear hz))
  refine bodyPost_ret (by simp [results, Tryz.results129, go_sem, e0, e1, e2, e3, e4, e5, e6, e7, e8, e9]; try rfl) rfl ?_
  exact ⟨rfl, ((((((((((hG.out.set (by omega) _).set (by omega) _).set (by omega) _).set (by omega) _).set (by omega) _).set (by omega) _).set (by omega) _).set (by omega) _).set (by omega) _).set (by omega) _)⟩
theorem ored_any (atv atm : BitVec 64) (aul auh asl ash awl awh avl avh : Int) (btv btm : BitVec 64) (bul buh bsl bsh bwl bwh bvl bvh : Int) (r : Bd) (hr : syncM ⟨atv ||| btv, Tn.orM atv atm btv btm, max aul bul, 18446744073709551615, -9223372036854775808, 9223372036854775807, max awl bwl, 4294967295, -2147483648, 2147483647⟩ = r) (haul : InU aul) (hbul : InU bul) (w : World) : Calls Tryz.prog 129 #[.agg #[.int .u64 (iv atv), .int .u64 (iv atm), .int .u64 aul, .int .u64 auh, .int .i64 asl, .int .i64 ash, .int .u64 awl, .int .u64 awh, .int .i64 avl, .int .i64 avh], .agg #[.int .u64 (iv btv), .int .u64 (iv btm), .int .u64 bul, .int .u64 buh, .int .i64 bsl, .int .i64 bsh, .int .u64 bwl, .int .u64 bwh, .int .i64 bvl, .int .i64 bvh]] w fun e w' => e = .returned (.agg #[.int .u64 (iv r.tv), .int .u64 (iv r.tm), .int .u64 r.ul, .int .u64 r.uh, .int .i64 r.sl, .int .i64 r.sh, .int .u64 r.wl, .int .u64 r.wh, .int .i64 r.vl, .int .i64 r.vh]) ∧ Gr w w' := by
  have g : ∀ x y z u : Int, x = y → z = u → syncM ⟨atv ||| btv, Tn.orM atv atm btv btm, x, 18446744073709551615, -9223372036854775808, 9223372036854775807, z, 4294967295, -2147483648, 2147483647⟩ = syncM ⟨atv ||| btv, Tn.orM atv atm btv btm, y, 18446744073709551615, -9223372036854775808, 9223372036854775807, u, 4294967295, -2147483648, 2147483647⟩ := by
    rintro x y z u rfl rfl
    rfl
  rcases Int.lt_or_le aul bul with h1 | h1 <;> rcases Int.lt_or_le awl bwl with h2 | h2
  · exact ored_3 atv atm aul auh asl ash awl awh avl avh btv btm bul buh bsl bsh bwl bwh bvl bvh r ((g _ _ _ _ (by omega) (by omega)).trans hr) h1 h2 haul hbul w
  · exact ored_2 atv atm aul auh asl ash awl awh avl avh btv btm bul buh bsl bsh bwl bwh bvl bvh r ((g _ _ _ _ (by omega) (by omega)).trans hr) h1 h2 haul hbul w
  · exact ored_1 atv atm aul auh asl ash awl awh avl avh btv btm bul buh bsl bsh bwl bwh bvl bvh r ((g _ _ _ _ (by omega) (by omega)).trans hr) h1 h2 haul hbul w
  · exact ored_0 atv atm aul auh asl ash awl awh avl avh btv btm bul buh bsl bsh bwl bwh bvl bvh r ((g _ _ _ _ (by omega) (by omega)).trans hr) h1 h2 haul hbul w
set_option maxHeartbeats 4000000 in
theorem xored_any (atv atm : BitVec 64) (aul auh asl ash awl awh avl avh : Int) (btv btm : BitVec 64) (bul buh bsl bsh bwl bwh bvl bvh : Int) (r : Bd) (hr : syncM ⟨((atv ^^^ btv) &&& ~~~(atm ||| btm)), (atm ||| btm), 0, 18446744073709551615, (-9223372036854775808), 9223372036854775807, 0, 4294967295, (-2147483648), 2147483647⟩ = r) (w : World) : Calls Tryz.prog 131 #[.agg #[.int .u64 (iv atv), .int .u64 (iv atm), .int .u64 aul, .int .u64 auh, .int .i64 asl, .int .i64 ash, .int .u64 awl, .int .u64 awh, .int .i64 avl, .int .i64 avh], .agg #[.int .u64 (iv btv), .int .u64 (iv btm), .int .u64 bul, .int .u64 buh, .int .i64 bsl, .int .i64 bsh, .int .u64 bwl, .int .u64 bwh, .int .i64 bvl, .int .i64 bvh]] w fun e w' => e = .returned (.agg #[.int .u64 (iv r.tv), .int .u64 (iv r.tm), .int .u64 r.ul, .int .u64 r.uh, .int .i64 r.sl, .int .i64 r.sh, .int .u64 r.wl, .int .u64 r.wh, .int .i64 r.vl, .int .i64 r.vh]) ∧ Gr w w' := by
  have HR : Hid (syncM ⟨((atv ^^^ btv) &&& ~~~(atm ||| btm)), (atm ||| btm), 0, 18446744073709551615, (-9223372036854775808), 9223372036854775807, 0, 4294967295, (-2147483648), 2147483647⟩ = r) := hr
  clear hr
  go_enter Tryz.func131, Tryz.ntmps131
  go_upto_region 1 with fail
  have HA1 : Hid (AtA (((w.alloc (.cells #[.int .u64 (iv atv), .int .u64 (iv atm), .int .u64 aul, .int .u64 auh, .int .i64 asl, .int .i64 ash, .int .u64 awl, .int .u64 awh, .int .i64 avl, .int .i64 avh] 30)).alloc (.cells #[.int .u64 (iv btv), .int .u64 (iv btm), .int .u64 bul, .int .u64 buh, .int .i64 bsl, .int .i64 bsh, .int .u64 bwl, .int .u64 bwh, .int .i64 bvl, .int .i64 bvh] 30)).alloc (.cells #[.int .u64 0, .int .u64 0, .int .u64 0, .int .u64 0, .int .i64 0, .int .i64 0, .int .u64 0, .int .u64 0, .int .i64 0, .int .i64 0] 30)) w.heap.size #[(.int .u64 (iv atv)), (.int .u64 (iv atm)), (.int .u64 aul), (.int .u64 auh), (.int .i64 asl), (.int .i64 ash), (.int .u64 awl), (.int .u64 awh), (.int .i64 avl), (.int .i64 avh)] 30) := (((AtA.newb _ (by simp) _ _).alloc _).alloc _)
  have HB1 : Hid (AtA (((w.alloc (.cells #[.int .u64 (iv atv), .int .u64 (iv atm), .int .u64 aul, .int .u64 auh, .int .i64 asl, .int .i64 ash, .int .u64 awl, .int .u64 awh, .int .i64 avl, .int .i64 avh] 30)).alloc (.cells #[.int .u64 (iv btv), .int .u64 (iv btm), .int .u64 bul, .int .u64 buh, .int .i64 bsl, .int .i64 bsh, .int .u64 bwl, .int .u64 bwh, .int .i64 bvl, .int .i64 bvh] 30)).alloc (.cells #[.int .u64 0, .int .u64 0, .int .u64 0, .int .u64 0, .int .i64 0, .int .i64 0, .int .u64 0, .int .u64 0, .int .i64 0, .int .i64 0] 30)) (w.heap.size + 1) #[(.int .u64 (iv btv)), (.int .u64 (iv btm)), (.int .u64 bul), (.int .u64 buh), (.int .i64 bsl), (.int .i64 bsh), (.int .u64 bwl), (.int .u64 bwh), (.int .i64 bvl), (.int .i64 bvh)] 30) := ((AtA.newb _ (by simp) _ _).alloc _)
  have HR1 : Hid (AtA (((w.alloc (.cells #[.int .u64 (iv atv), .int .u64 (iv atm), .int .u64 aul, .int .u64 auh, .int .i64 asl, .int .i64 ash, .int .u64 awl, .int .u64 awh, .int .i64 avl, .int .i64 avh] 30)).alloc (.cells #[.int .u64 (iv btv), .int .u64 (iv btm), .int .u64 bul, .int .u64 buh, .int .i64 bsl, .int .i64 bsh, .int .u64 bwl, .int .u64 bwh, .int .i64 bvl, .int .i64 bvh] 30)).alloc (.cells #[.int .u64 0, .int .u64 0, .int .u64 0, .int .u64 0, .int .i64 0, .int .i64 0, .int .u64 0, .int .u64 0, .int .i64 0, .int .i64 0] 30)) (w.heap.size + 1 + 1) #[(.int .u64 0), (.int .u64 0), (.int .u64 0), (.int .u64 0), (.int .i64 0), (.int .i64 0), (.int .u64 0), (.int .u64 0), (.int .i64 0), (.int .i64 0)] 30) := (AtA.newb _ (by simp) _ _)
  have HG1 : Hid (Gr w (((w.alloc (.cells #[.int .u64 (iv atv), .int .u64 (iv atm), .int .u64 aul, .int .u64 auh, .int .i64 asl, .int .i64 ash, .int .u64 awl, .int .u64 awh, .int .i64 avl, .int .i64 avh] 30)).alloc (.cells #[.int .u64 (iv btv), .int .u64 (iv btm), .int .u64 bul, .int .u64 buh, .int .i64 bsl, .int .i64 bsh, .int .u64 bwl, .int .u64 bwh, .int .i64 bvl, .int .i64 bvh] 30)).alloc (.cells #[.int .u64 0, .int .u64 0, .int .u64 0, .int .u64 0, .int .i64 0, .int .i64 0, .int .u64 0, .int .u64 0, .int .i64 0, .int .i64 0] 30))) := (⟨by go_grown, by go_grown⟩ : Gr w _)
  go_upto_region 2 with (first | (go_at_call 51; refine (any_any _).mono ?_; rintro e w1 ⟨rfl, hg1⟩))
  have hsz : w.heap.size + 3 ≤ w1.heap.size := by
    have := hg1.below.size
    simp at this
    omega
  have HA2 : Hid (AtA (w1.alloc (.cells #[(.int .u64 (iv 0#64)), (.int .u64 (iv 18446744073709551615#64)), (.int .u64 0), (.int .u64 18446744073709551615), (.int .i64 (-9223372036854775808)), (.int .i64 9223372036854775807), (.int .u64 0), (.int .u64 4294967295), (.int .i64 (-2147483648)), (.int .i64 2147483647)] 30)) w.heap.size #[(.int .u64 (iv atv)), (.int .u64 (iv atm)), (.int .u64 aul), (.int .u64 auh), (.int .i64 asl), (.int .i64 ash), (.int .u64 awl), (.int .u64 awh), (.int .i64 avl), (.int .i64 avh)] 30) := (HA1.out.gr hg1).alloc _
  have HB2 : Hid (AtA (w1.alloc (.cells #[(.int .u64 (iv 0#64)), (.int .u64 (iv 18446744073709551615#64)), (.int .u64 0), (.int .u64 18446744073709551615), (.int .i64 (-9223372036854775808)), (.int .i64 9223372036854775807), (.int .u64 0), (.int .u64 4294967295), (.int .i64 (-2147483648)), (.int .i64 2147483647)] 30)) (w.heap.size + 1) #[(.int .u64 (iv btv)), (.int .u64 (iv btm)), (.int .u64 bul), (.int .u64 buh), (.int .i64 bsl), (.int .i64 bsh), (.int .u64 bwl), (.int .u64 bwh), (.int .i64 bvl), (.int .i64 bvh)] 30) := (HB1.out.gr hg1).alloc _
  have HR2 : Hid (AtA (w1.alloc (.cells #[(.int .u64 (iv 0#64)), (.int .u64 (iv 18446744073709551615#64)), (.int .u64 0), (.int .u64 18446744073709551615), (.int .i64 (-9223372036854775808)), (.int .i64 9223372036854775807), (.int .u64 0), (.int .u64 4294967295), (.int .i64 (-2147483648)), (.int .i64 2147483647)] 30)) (w.heap.size + 1 + 1) #[(.int .u64 0), (.int .u64 0), (.int .u64 0), (.int .u64 0), (.int .i64 0), (.int .i64 0), (.int .u64 0), (.int .u64 0), (.int .i64 0), (.int .i64 0)] 30) := (HR1.out.gr hg1).alloc _
  have HX2 : Hid (AtA (w1.alloc (.cells #[(.int .u64 (iv 0#64)), (.int .u64 (iv 18446744073709551615#64)), (.int .u64 0), (.int .u64 18446744073709551615), (.int .i64 (-9223372036854775808)), (.int .i64 9223372036854775807), (.int .u64 0), (.int .u64 4294967295), (.int .i64 (-2147483648)), (.int .i64 2147483647)] 30)) w1.heap.size #[(.int .u64 (iv 0#64)), (.int .u64 (iv 18446744073709551615#64)), (.int .u64 0), (.int .u64 18446744073709551615), (.int .i64 (-9223372036854775808)), (.int .i64 9223372036854775807), (.int .u64 0), (.int .u64 4294967295), (.int .i64 (-2147483648)), (.int .i64 2147483647)] 30) := AtA.newb _ rfl _ _
  have HG2 : Hid (Gr w (w1.alloc (.cells #[(.int .u64 (iv 0#64)), (.int .u64 (iv 18446744073709551615#64)), (.int .u64 0), (.int .u64 18446744073709551615), (.int .i64 (-9223372036854775808)), (.int .i64 9223372036854775807), (.int .u64 0), (.int .u64 4294967295), (.int .i64 (-2147483648)), (.int .i64 2147483647)] 30))) := (HG1.out.trans hg1).alloc _ _
  clear HA1 HB1 HR1 HG1
  clear hg1
  have k1 := HA2.out.cell 0
  have k2 := HA2.out.cell 1
  have k3 := HB2.out.cell 0
  have k4 := HB2.out.cell 1
  simp only [List.getElem?_toArray, List.getElem?_cons_zero, List.getElem?_cons_succ] at k1 k2 k3 k4
  go_upto_region 3 with (first | (go_at_call 194; refine (cv (Tn.xor_any _ _ _ _ _)).mono ?_; rintro e w2 ⟨rfl, hg2⟩ ; have hx2 : Hid (AtA w2 w1.heap.size #[(.int .u64 (iv 0#64)), (.int .u64 (iv 18446744073709551615#64)), (.int .u64 0), (.int .u64 18446744073709551615), (.int .i64 (-9223372036854775808)), (.int .i64 9223372036854775807), (.int .u64 0), (.int .u64 4294967295), (.int .i64 (-2147483648)), (.int .i64 2147483647)] 30) := (HX2.out.gr hg2); have k5 := hx2.out.f 0; have k6 := hx2.out.cell 0; have k7 := hx2.out.f 1; have k8 := hx2.out.cell 1; simp only [List.getElem?_toArray, List.getElem?_cons_zero, List.getElem?_cons_succ] at k6 k8))
  clear k1 k2 k3 k4 k5 k6 k7 k8
  have HA3 : Hid (AtA w2 w.heap.size #[(.int .u64 (iv atv)), (.int .u64 (iv atm)), (.int .u64 aul), (.int .u64 auh), (.int .i64 asl), (.int .i64 ash), (.int .u64 awl), (.int .u64 awh), (.int .i64 avl), (.int .i64 avh)] 30) := (HA2.out.gr hg2)
  have HB3 : Hid (AtA w2 (w.heap.size + 1) #[(.int .u64 (iv btv)), (.int .u64 (iv btm)), (.int .u64 bul), (.int .u64 buh), (.int .i64 bsl), (.int .i64 bsh), (.int .u64 bwl), (.int .u64 bwh), (.int .i64 bvl), (.int .i64 bvh)] 30) := (HB2.out.gr hg2)
  have HR3 : Hid (AtA w2 (w.heap.size + 1 + 1) #[(.int .u64 0), (.int .u64 0), (.int .u64 0), (.int .u64 0), (.int .i64 0), (.int .i64 0), (.int .u64 0), (.int .u64 0), (.int .i64 0), (.int .i64 0)] 30) := (HR2.out.gr hg2)
  have HX3 : Hid (AtA w2 w1.heap.size #[(.int .u64 (iv 0#64)), (.int .u64 (iv 18446744073709551615#64)), (.int .u64 0), (.int .u64 18446744073709551615), (.int .i64 (-9223372036854775808)), (.int .i64 9223372036854775807), (.int .u64 0), (.int .u64 4294967295), (.int .i64 (-2147483648)), (.int .i64 2147483647)] 30) := (HX2.out.gr hg2)
  have HG3 : Hid (Gr w w2) := (HG2.out.trans hg2)
  clear HA2 HB2 HR2 HX2 HG2
  clear hx2 hg2
  have HA4 : Hid (AtA ((w2.setCell ⟨w1.heap.size, 0, none⟩ (.int .u64 (iv ((atv ^^^ btv) &&& ~~~(atm ||| btm))))).setCell ⟨w1.heap.size, 1, none⟩ (.int .u64 (iv (atm ||| btm)))) w.heap.size #[(.int .u64 (iv atv)), (.int .u64 (iv atm)), (.int .u64 aul), (.int .u64 auh), (.int .i64 asl), (.int .i64 ash), (.int .u64 awl), (.int .u64 awh), (.int .i64 avl), (.int .i64 avh)] 30) := ((HA3.out.other (by omega) (.int .u64 (iv ((atv ^^^ btv) &&& ~~~(atm ||| btm))))).other (by omega) (.int .u64 (iv (atm ||| btm))))
  have HB4 : Hid (AtA ((w2.setCell ⟨w1.heap.size, 0, none⟩ (.int .u64 (iv ((atv ^^^ btv) &&& ~~~(atm ||| btm))))).setCell ⟨w1.heap.size, 1, none⟩ (.int .u64 (iv (atm ||| btm)))) (w.heap.size + 1) #[(.int .u64 (iv btv)), (.int .u64 (iv btm)), (.int .u64 bul), (.int .u64 buh), (.int .i64 bsl), (.int .i64 bsh), (.int .u64 bwl), (.int .u64 bwh), (.int .i64 bvl), (.int .i64 bvh)] 30) := ((HB3.out.other (by omega) (.int .u64 (iv ((atv ^^^ btv) &&& ~~~(atm ||| btm))))).other (by omega) (.int .u64 (iv (atm ||| btm))))
  have HR4 : Hid (AtA ((w2.setCell ⟨w1.heap.size, 0, none⟩ (.int .u64 (iv ((atv ^^^ btv) &&& ~~~(atm ||| btm))))).setCell ⟨w1.heap.size, 1, none⟩ (.int .u64 (iv (atm ||| btm)))) (w.heap.size + 1 + 1) #[(.int .u64 0), (.int .u64 0), (.int .u64 0), (.int .u64 0), (.int .i64 0), (.int .i64 0), (.int .u64 0), (.int .u64 0), (.int .i64 0), (.int .i64 0)] 30) := ((HR3.out.other (by omega) (.int .u64 (iv ((atv ^^^ btv) &&& ~~~(atm ||| btm))))).other (by omega) (.int .u64 (iv (atm ||| btm))))
  have HX4 : Hid (AtA ((w2.setCell ⟨w1.heap.size, 0, none⟩ (.int .u64 (iv ((atv ^^^ btv) &&& ~~~(atm ||| btm))))).setCell ⟨w1.heap.size, 1, none⟩ (.int .u64 (iv (atm ||| btm)))) w1.heap.size #[(.int .u64 (iv ((atv ^^^ btv) &&& ~~~(atm ||| btm)))), (.int .u64 (iv (atm ||| btm))), (.int .u64 0), (.int .u64 18446744073709551615), (.int .i64 (-9223372036854775808)), (.int .i64 9223372036854775807), (.int .u64 0), (.int .u64 4294967295), (.int .i64 (-2147483648)), (.int .i64 2147483647)] 30) := by have h := ((HX3.out.st 0 (.int .u64 (iv ((atv ^^^ btv) &&& ~~~(atm ||| btm))))).st 1 (.int .u64 (iv (atm ||| btm)))); simp only [List.setIfInBounds_toArray, List.set_cons_zero, List.set_cons_succ] at h; exact h
  have HG4 : Hid (Gr w ((w2.setCell ⟨w1.heap.size, 0, none⟩ (.int .u64 (iv ((atv ^^^ btv) &&& ~~~(atm ||| btm))))).setCell ⟨w1.heap.size, 1, none⟩ (.int .u64 (iv (atm ||| btm))))) := ((HG3.out.set (by omega) (.int .u64 (iv ((atv ^^^ btv) &&& ~~~(atm ||| btm))))).set (by omega) (.int .u64 (iv (atm ||| btm))))
  clear HA3 HB3 HR3 HX3 HG3
  have k9 := HX4.out.cell 0
  have k10 := HX4.out.cell 1
  have k11 := HX4.out.cell 2
  have k12 := HX4.out.cell 3
  have k13 := HX4.out.cell 4
  have k14 := HX4.out.cell 5
  have k15 := HX4.out.cell 6
  have k16 := HX4.out.cell 7
  have k17 := HX4.out.cell 8
  have k18 := HX4.out.cell 9
  simp only [List.getElem?_toArray, List.getElem?_cons_zero, List.getElem?_cons_succ] at k9 k10 k11 k12 k13 k14 k15 k16 k17 k18
  go_wp2_with (first
    | (go_at_call 11; refine (sync_q _ _ _ _ _ _ _ _ _ _ r HR.out inU_z inU_f inS_z inS_f _).mono ?_; rintro e w3 ⟨rfl, hg⟩; have hr : Hid (AtA w3 (w.heap.size + 1 + 1) _ 30) := HR4.out.gr hg; have hG : Hid (Gr w w3) := HG4.out.trans hg; clear hg
       have f0 := (hr.out).f 0
       have f1 := (hr.out).f 1
       have f2 := (hr.out).f 2
       have f3 := (hr.out).f 3
       have f4 := (hr.out).f 4
       have f5 := (hr.out).f 5
       have f6 := (hr.out).f 6
       have f7 := (hr.out).f 7
       have f8 := (hr.out).f 8
       have f9 := (hr.out).f 9
       have d0 := (hr.out).cell 0
       have d1 := (hr.out).cell 1
       have d2 := (hr.out).cell 2
       have d3 := (hr.out).cell 3
       have d4 := (hr.out).cell 4
       have d5 := (hr.out).cell 5
       have d6 := (hr.out).cell 6
       have d7 := (hr.out).cell 7
       have d8 := (hr.out).cell 8
       have d9 := (hr.out).cell 9
       simp only [List.getElem?_toArray, List.getElem?_cons_zero, List.getElem?_cons_succ] at d0 d1 d2 d3 d4 d5 d6 d7 d8 d9
       have hz := (((((((((((hr.out).st 0 (.int .u64 (iv r.tv))).st 1 (.int .u64 (iv r.tm))).st 2 (.int .u64 r.ul)).st 3 (.int .u64 r.uh)).st 4 (.int .i64 r.sl)).st 5 (.int .i64 r.sh)).st 6 (.int .u64 r.wl)).st 7 (.int .u64 r.wh)).st 8 (.int .i64 r.vl)).st 9 (.int .i64 r.vh))
       simp only [List.setIfInBounds_toArray, List.set_cons_zero, List.set_cons_succ] at hz
       have e0 := hz.cell 0
       have e1 := hz.cell 1
       have e2 := hz.cell 2
       have e3 := hz.cell 3
       have e4 := hz.cell 4
       have e5 := hz.cell 5
       have e6 := hz.cell 6
       have e7 := hz.cell 7
       have e8 := hz.cell 8
       have e9 := hz.cell 9
       simp only [List.getElem?_toArray, List.getElem?_cons_zero, List.getElem?_cons_succ] at e0 e1 e2 e3 e4 e5 e6 e7 e8 e9
       clear hz))
  refine bodyPost_ret (by simp [results, Tryz.results131, go_sem, e0, e1, e2, e3, e4, e5, e6, e7, e8, e9]; try rfl) rfl ?_
  exact ⟨rfl, ((((((((((hG.out.set (by omega) _).set (by omega) _).set (by omega) _).set (by omega) _).set (by omega) _).set (by omega) _).set (by omega) _).set (by omega) _).set (by omega) _).set (by omega) _)⟩
end Go.Proofs.YtekenpgagfmgkaaGreat
end
section
namespace Go.Proofs.YtekenpgagfmgkaaGreat
open Go.ChangeShapes Go.WideShapes Go.ChangeAt Go.RowKit
open Tn (iv)
set_option linter.unusedVariables false
set_option linter.unusedSimpArgs false
set_option maxRecDepth 20000

theorem iv_mulm (x y : BitVec 64) : iv (x * y) = (iv x * iv y) % 18446744073709551616 := by
  unfold Tn.iv
  have h : (x * y).toNat = x.toNat * y.toNat % 18446744073709551616 := BitVec.toNat_mul x y
  rw [h, Int.natCast_emod, Int.natCast_mul]
  rfl
theorem hw_mul {X Y Z : Int} (e : Z = (X * Y) % 18446744073709551616) : (IntKind.u64.wrap (X % 4294967296 * (Y % 4294967296))) % 4294967296 = Z % 4294967296 := by
  rw [IntKind.wrap_u64, e]
  have h1 : (X % 4294967296 * (Y % 4294967296)) % 4294967296 = (X * Y) % 4294967296 := by rw [← Int.mul_emod]
  omega
set_option maxHeartbeats 4000000 in
theorem d_mul {a b : Bd} {x y : BitVec 64} (ga : Good a) (gb : Good b) (ka : Has a x) (kb : Has b y) : Deed 123 a b x y (x * y) True := by
  have e := iv_mulm x y
  obtain ⟨ul, uh, u1, u2, u3, u4, cu⟩ := e_mul ga.iu0 ga.iu1 gb.iu0 gb.iu1 ka.u0 ka.u1 kb.u0 kb.u1
  obtain ⟨wa, wb, w1, w2, w3, w4, cw⟩ := e_mul ga.iw0 ga.iw1 gb.iw0 gb.iw1 ka.w0 ka.w1 kb.w0 kb.w1
  obtain ⟨wl, wh, w5, w6, w7, ch⟩ := e_half (z := iv (x * y)) w1 w2 w3 w4 (hw_mul e)
  rw [wr64, ← e] at u3 u4
  have hz := has_any (x * y)
  have hk : Has ({ { { anyM with tv := Tn.Tn.mulV a.tv a.tm b.tv b.tm, tm := Tn.Tn.mulU a.tv a.tm b.tv b.tm } with ul := ul, uh := uh } with wl := wl, wh := wh } : Bd) (x * y) := ⟨t_of (Tn.mul_ok _ _ _ _) (Tn.Tn.mul_sound ga.ok gb.ok ka.th kb.th), u3, u4, hz.s0, hz.s1, w6, w7, hz.v0, hz.v1⟩
  have hg : Good ({ { { anyM with tv := Tn.Tn.mulV a.tv a.tm b.tv b.tm, tm := Tn.Tn.mulU a.tv a.tm b.tv b.tm } with ul := ul, uh := uh } with wl := wl, wh := wh } : Bd) := good_by (Tn.mul_ok _ _ _ _) hk u1.1 u2.2 good_any.s0 good_any.s2 w5.1 w5.2 good_any.v0 good_any.v2
  have csy := fun w => k_sync ({ { { anyM with tv := Tn.Tn.mulV a.tv a.tm b.tv b.tm, tm := Tn.Tn.mulU a.tv a.tm b.tv b.tm } with ul := ul, uh := uh } with wl := wl, wh := wh } : Bd) w hg
  generalize hrs : syncM ({ { { anyM with tv := Tn.Tn.mulV a.tv a.tm b.tv b.tm, tm := Tn.Tn.mulU a.tv a.tm b.tv b.tm } with ul := ul, uh := uh } with wl := wl, wh := wh } : Bd) = RS at csy
  refine deed_of hg hk (fun _ pa pb => .inl ?_) (fun w => ?_)
  · show Tn.Tn.mulU a.tv a.tm b.tv b.tm = 0#64
    rw [show a.tm = 0#64 by rw [pa]; rfl, show b.tm = 0#64 by rw [pb]; rfl]
    unfold Tn.Tn.mulU
    rw [Tn.Tn.mulM_const]
    unfold Tn.Tn.addU
    ext i hi
    simp
  rw [hrs]
  go_enter Tryz.func123, Tryz.ntmps123
  go_upto_region 1 with fail
  have HA : AtA (((w.alloc (.cells (bv a) 30)).alloc (.cells (bv b) 30)).alloc (.cells (bv zeroM) 30)) w.heap.size (bv a) 30 := ((AtA.newb _ rfl _ _).alloc _).alloc _
  have HB : AtA (((w.alloc (.cells (bv a) 30)).alloc (.cells (bv b) 30)).alloc (.cells (bv zeroM) 30)) (w.heap.size + 1) (bv b) 30 := (AtA.newb _ (by simp) _ _).alloc _
  have HR : AtA (((w.alloc (.cells (bv a) 30)).alloc (.cells (bv b) 30)).alloc (.cells (bv zeroM) 30)) (w.heap.size + 1 + 1) (bv zeroM) 30 := AtA.newb _ (by simp) _ _
  have HF : Gr w (((w.alloc (.cells (bv a) 30)).alloc (.cells (bv b) 30)).alloc (.cells (bv zeroM) 30)) := Gr.alloc (Gr.alloc (Gr.alloc (Gr.refl w) _ _) _ _) _ _
  have nAR : w.heap.size ≠ w.heap.size + 1 + 1 := by omega
  have nBR : w.heap.size + 1 ≠ w.heap.size + 1 + 1 := by omega
  have hPR : w.heap.size ≤ w.heap.size + 1 + 1 := by omega
  revert HA HB HR HF nAR nBR hPR
  rw [bv_zero]
  generalize (((w.alloc (.cells (bv a) 30)).alloc (.cells (bv b) 30)).alloc (.cells _ 30)) = W0
  generalize w.heap.size + 1 + 1 = PR
  generalize w.heap.size + 1 = PB
  generalize hw0 : w.heap.size = PA
  intro HA HB HR HF nAR nBR hPR
  rw [← hw0] at hPR
  rw [← bv_zero] at HR
  refine wp_region_seqW (by kernel_rfl) ?_
  refine seq_do ?_
  refine wp_call0 rfl (by go_simp) ?_
  refine ((k_any) _).mono ?_
  rintro e wk1 ⟨rfl, hk1⟩
  refine ⟨_, rfl, ?_⟩
  have hPA_1 := (HA).gr hk1
  have hPB_1 := (HB).gr hk1
  have hPR_1 := (HR).gr hk1
  have hF_1 := (HF).trans hk1
  refine seq_do ?_
  refine wp_allocB rfl ?_
  intro ws2 hn2 hg2
  have hge2 := (hF_1).below.size
  have hnePA_PN2 : PA ≠ wk1.heap.size := Nat.ne_of_lt (hPA_1).lt
  have hnePB_PN2 : PB ≠ wk1.heap.size := Nat.ne_of_lt (hPB_1).lt
  have hnePR_PN2 : PR ≠ wk1.heap.size := Nat.ne_of_lt (hPR_1).lt
  have hPA_2 := (hPA_1).gr hg2
  have hPB_2 := (hPB_1).gr hg2
  have hPR_2 := (hPR_1).gr hg2
  have hF_2 := (hF_1).trans hg2
  revert hn2 hge2 hnePA_PN2 hnePB_PN2 hnePR_PN2
  generalize wk1.heap.size = PN2
  intro hn2 hge2 hnePA_PN2 hnePB_PN2 hnePR_PN2
  refine seq_do ?_
  refine wp_storeB rfl rfl rfl (hn2) ?_
  intro ws3 hs3 gx3
  have hPA_3 := (hPA_2).grx gx3 hnePA_PN2
  have hPB_3 := (hPB_2).grx gx3 hnePB_PN2
  have hPR_3 := (hPR_2).grx gx3 hnePR_PN2
  have hF_3 := gx3.gr _ (hF_2) hge2
  simp only [Act.put, List.setIfInBounds_toArray, List.set_cons_zero, List.set_cons_succ]
  refine seq_end ?_
  go_upto_region 2 with fail
  refine wp_region_seqW (by kernel_rfl) ?_
  refine seq_do ?_
  refine wp_fa0 rfl rfl ?_
  refine seq_do ?_
  refine wp_pT rfl rfl (hPA_3) rfl rfl ?_
  refine seq_do ?_
  refine wp_fa0 rfl rfl ?_
  simp only [Act.put, List.setIfInBounds_toArray, List.set_cons_zero, List.set_cons_succ]
  refine seq_do ?_
  refine wp_pT rfl rfl (hPB_3) rfl rfl ?_
  refine seq_do ?_
  refine wp_call2 rfl rfl rfl (by go_simp) ?_
  refine ((fun w => Go.Proofs.YtekenpgagfmgkaaGreat.cv (Tn.mul_any a.tv a.tm b.tv b.tm ga.ok w)) _).mono ?_
  rintro e wk4 ⟨rfl, hk4⟩
  refine ⟨_, rfl, ?_⟩
  have hPA_4 := (hPA_3).gr hk4
  have hPB_4 := (hPB_3).gr hk4
  have hPR_4 := (hPR_3).gr hk4
  have hPN2_4 := (hs3).gr hk4
  have hF_4 := (hF_3).trans hk4
  refine seq_do ?_
  refine wp_fa0 rfl rfl ?_
  simp only [Act.put, List.setIfInBounds_toArray, List.set_cons_zero, List.set_cons_succ]
  refine seq_do ?_
  refine wp_stT rfl rfl rfl (hPN2_4) ?_
  intro ws5 hs5 gx5
  have hPA_5 := (hPA_4).grx gx5 hnePA_PN2
  have hPB_5 := (hPB_4).grx gx5 hnePB_PN2
  have hPR_5 := (hPR_4).grx gx5 hnePR_PN2
  have hF_5 := gx5.gr _ (hF_4) hge2
  simp only [Act.put, List.setIfInBounds_toArray, List.set_cons_zero, List.set_cons_succ]
  refine seq_end ?_
  go_upto_region 3 with fail
  refine wp_region_seqW (by kernel_rfl) ?_
  refine seq_do ?_
  refine wp_fa1 rfl rfl ?_
  refine seq_do ?_
  refine wp_pU rfl rfl (hPA_5) rfl rfl ?_
  refine seq_do ?_
  refine wp_fa1 rfl rfl ?_
  simp only [Act.put, List.setIfInBounds_toArray, List.set_cons_zero, List.set_cons_succ]
  refine seq_do ?_
  refine wp_pU rfl rfl (hPB_5) rfl rfl ?_
  refine seq_do ?_
  refine wp_call2 rfl rfl rfl (by go_simp) ?_
  refine ((cu) _).mono ?_
  rintro e wk6 ⟨rfl, hk6⟩
  refine ⟨_, rfl, ?_⟩
  have hPA_6 := (hPA_5).gr hk6
  have hPB_6 := (hPB_5).gr hk6
  have hPR_6 := (hPR_5).gr hk6
  have hPN2_6 := (hs5).gr hk6
  have hF_6 := (hF_5).trans hk6
  refine seq_do ?_
  refine wp_fa1 rfl rfl ?_
  simp only [Act.put, List.setIfInBounds_toArray, List.set_cons_zero, List.set_cons_succ]
  refine seq_do ?_
  refine wp_stU rfl rfl rfl (hPN2_6) ?_
  intro ws7 hs7 gx7
  have hPA_7 := (hPA_6).grx gx7 hnePA_PN2
  have hPB_7 := (hPB_6).grx gx7 hnePB_PN2
  have hPR_7 := (hPR_6).grx gx7 hnePR_PN2
  have hF_7 := gx7.gr _ (hF_6) hge2
  simp only [Act.put, List.setIfInBounds_toArray, List.set_cons_zero, List.set_cons_succ]
  refine seq_end ?_
  go_upto_region 4 with fail
  refine wp_region_seqW (by kernel_rfl) ?_
  refine seq_do ?_
  refine wp_fa3 rfl rfl ?_
  refine seq_do ?_
  refine wp_pU rfl rfl (hPA_7) rfl rfl ?_
  refine seq_do ?_
  refine wp_fa3 rfl rfl ?_
  simp only [Act.put, List.setIfInBounds_toArray, List.set_cons_zero, List.set_cons_succ]
  refine seq_do ?_
  refine wp_pU rfl rfl (hPB_7) rfl rfl ?_
  refine seq_do ?_
  refine wp_call2 rfl rfl rfl (by go_simp) ?_
  refine ((cw) _).mono ?_
  rintro e wk8 ⟨rfl, hk8⟩
  refine ⟨_, rfl, ?_⟩
  have hPA_8 := (hPA_7).gr hk8
  have hPB_8 := (hPB_7).gr hk8
  have hPR_8 := (hPR_7).gr hk8
  have hPN2_8 := (hs7).gr hk8
  have hF_8 := (hF_7).trans hk8
  refine seq_do ?_
  refine wp_call1 rfl rfl (by go_simp) ?_
  refine ((ch) _).mono ?_
  rintro e wk9 ⟨rfl, hk9⟩
  refine ⟨_, rfl, ?_⟩
  have hPA_9 := (hPA_8).gr hk9
  have hPB_9 := (hPB_8).gr hk9
  have hPR_9 := (hPR_8).gr hk9
  have hPN2_9 := (hPN2_8).gr hk9
  have hF_9 := (hF_8).trans hk9
  simp only [Act.put, List.setIfInBounds_toArray, List.set_cons_zero, List.set_cons_succ]
  refine seq_do ?_
  refine wp_fa3 rfl rfl ?_
  refine seq_do ?_
  refine wp_stW rfl rfl rfl (hPN2_9) ?_
  intro ws10 hs10 gx10
  have hPA_10 := (hPA_9).grx gx10 hnePA_PN2
  have hPB_10 := (hPB_9).grx gx10 hnePB_PN2
  have hPR_10 := (hPR_9).grx gx10 hnePR_PN2
  have hF_10 := gx10.gr _ (hF_9) hge2
  simp only [Act.put, List.setIfInBounds_toArray, List.set_cons_zero, List.set_cons_succ]
  refine seq_end ?_
  go_upto_region 5 with fail
  refine wp_region_seqW (by kernel_rfl) ?_
  refine seq_do ?_
  refine wp_loadB rfl rfl (hs10) ?_
  refine seq_do ?_
  refine wp_call1 rfl rfl (by go_simp) ?_
  refine ((csy) _).mono ?_
  rintro e wk11 ⟨rfl, hk11⟩
  refine ⟨_, rfl, ?_⟩
  have hPA_11 := (hPA_10).gr hk11
  have hPB_11 := (hPB_10).gr hk11
  have hPR_11 := (hPR_10).gr hk11
  have hPN2_11 := (hs10).gr hk11
  have hF_11 := (hF_10).trans hk11
  refine seq_do ?_
  refine wp_storeB rfl rfl rfl (hPR_11) ?_
  intro ws12 hs12 gx12
  have hPA_12 := (hPA_11).grx gx12 nAR
  have hPB_12 := (hPB_11).grx gx12 nBR
  have hPN2_12 := (hPN2_11).grx gx12 (Ne.symm hnePR_PN2)
  have hF_12 := gx12.gr _ (hF_11) hPR
  simp only [Act.put, List.setIfInBounds_toArray, List.set_cons_zero, List.set_cons_succ]
  refine seq_end ?_
  obtain ⟨r0, r1, r2, r3, r4, r5, r6, r7, r8, r9⟩ := cells_bv (hs12)
  go_wp2
  refine bodyPost_ret (by simp [results, Tryz.results123, go_sem, r0, r1, r2, r3, r4, r5, r6, r7, r8, r9]; try rfl) rfl ?_
  exact ⟨rfl, hF_12⟩
theorem iv_and_le (x y : BitVec 64) : iv (x &&& y) ≤ iv x ∧ iv (x &&& y) ≤ iv y := by
  unfold Tn.iv
  rw [BitVec.toNat_and]
  have h1 : x.toNat &&& y.toNat ≤ x.toNat := Nat.and_le_left
  have h2 : x.toNat &&& y.toNat ≤ y.toNat := Nat.and_le_right
  omega
theorem iv_or_ge (x y : BitVec 64) : iv x ≤ iv (x ||| y) ∧ iv y ≤ iv (x ||| y) := by
  unfold Tn.iv
  rw [BitVec.toNat_or]
  have h1 : x.toNat ≤ x.toNat ||| y.toNat := Nat.left_le_or
  have h2 : y.toNat ≤ x.toNat ||| y.toNat := Nat.right_le_or
  omega
theorem low_and (x y : BitVec 64) : lowT (x &&& y) = lowT x &&& lowT y := by
  unfold lowT
  ext i hi
  simp only [BitVec.getElem_and]
  cases x[i] <;> cases y[i] <;> simp
theorem low_or (x y : BitVec 64) : lowT (x ||| y) = lowT x ||| lowT y := by
  unfold lowT
  ext i hi
  simp only [BitVec.getElem_and, BitVec.getElem_or]
  cases x[i] <;> cases y[i] <;> simp
theorem d_and {a b : Bd} {x y : BitVec 64} (ga : Good a) (gb : Good b) (ka : Has a x) (kb : Has b y) : Deed 130 a b x y (x &&& y) True := by
  have hz := has_any (x &&& y)
  have hi := iv_range (x &&& y)
  have h1 := iv_and_le x y
  have h2 := iv_and_le (lowT x) (lowT y)
  rw [← low_and, low_mod, low_mod, low_mod] at h2
  have hk : Has (⟨a.tv &&& b.tv, Tn.andM a.tv a.tm b.tv b.tm, 0, min a.uh b.uh, -9223372036854775808, 9223372036854775807, 0, min a.wh b.wh, -2147483648, 2147483647⟩ : Bd) (x &&& y) := ⟨t_of (Tn.and_ok _ _ _ _) (Tn.Tn.and_sound ka.th kb.th (Tn.and_bit ga.ok gb.ok)), hi.1, mm_hi (Int.le_trans h1.1 ka.u1) (Int.le_trans h1.2 kb.u1), hz.s0, hz.s1, hz.w0, mm_hi (Int.le_trans h2.1 ka.w1) (Int.le_trans h2.2 kb.w1), hz.v0, hz.v1⟩
  have hg : Good (⟨a.tv &&& b.tv, Tn.andM a.tv a.tm b.tv b.tm, 0, min a.uh b.uh, -9223372036854775808, 9223372036854775807, 0, min a.wh b.wh, -2147483648, 2147483647⟩ : Bd) := good_by (Tn.and_ok _ _ _ _) hk (Int.le_refl _) (mm_max ga.u2) (Int.le_refl _) (Int.le_refl _) (Int.le_refl _) (mm_max ga.w2) (Int.le_refl _) (Int.le_refl _)
  refine deed_of hg hk (fun _ pa pb => .inl ?_) (fun w => anded_any a.tv a.tm a.ul a.uh a.sl a.sh a.wl a.wh a.vl a.vh b.tv b.tm b.ul b.uh b.sl b.sh b.wl b.wh b.vl b.vh _ rfl ga.iu1 gb.iu1 w)
  show Tn.andM a.tv a.tm b.tv b.tm = 0#64
  rw [show a.tm = 0#64 by rw [pa]; rfl, show b.tm = 0#64 by rw [pb]; rfl]
  unfold Tn.andM
  rw [iv_or0, iv_or0]
  ext i hi
  simp only [BitVec.getElem_and, BitVec.getElem_not, BitVec.getElem_zero]
  cases a.tv[i] <;> cases b.tv[i] <;> rfl
theorem d_or {a b : Bd} {x y : BitVec 64} (ga : Good a) (gb : Good b) (ka : Has a x) (kb : Has b y) : Deed 129 a b x y (x ||| y) True := by
  have hz := has_any (x ||| y)
  have hi := iv_range (x ||| y)
  have h1 := iv_or_ge x y
  have h2 := iv_or_ge (lowT x) (lowT y)
  rw [← low_or, low_mod, low_mod, low_mod] at h2
  have hk : Has (⟨a.tv ||| b.tv, Tn.orM a.tv a.tm b.tv b.tm, max a.ul b.ul, 18446744073709551615, -9223372036854775808, 9223372036854775807, max a.wl b.wl, 4294967295, -2147483648, 2147483647⟩ : Bd) (x ||| y) := ⟨t_of (Tn.or_ok _ _ _ _) (Tn.Tn.or_sound ka.th kb.th (Tn.or_bit ga.ok gb.ok)), mm_lo (Int.le_trans ka.u0 h1.1) (Int.le_trans kb.u0 h1.2), hi.2, hz.s0, hz.s1, mm_lo (Int.le_trans ka.w0 h2.1) (Int.le_trans kb.w0 h2.2), hz.w1, hz.v0, hz.v1⟩
  have hg : Good (⟨a.tv ||| b.tv, Tn.orM a.tv a.tm b.tv b.tm, max a.ul b.ul, 18446744073709551615, -9223372036854775808, 9223372036854775807, max a.wl b.wl, 4294967295, -2147483648, 2147483647⟩ : Bd) := good_by (Tn.or_ok _ _ _ _) hk (mm_min ga.u0) (Int.le_refl _) (Int.le_refl _) (Int.le_refl _) (mm_min ga.w0) (Int.le_refl _) (Int.le_refl _) (Int.le_refl _)
  refine deed_of hg hk (fun _ pa pb => .inl ?_) (fun w => ored_any a.tv a.tm a.ul a.uh a.sl a.sh a.wl a.wh a.vl a.vh b.tv b.tm b.ul b.uh b.sl b.sh b.wl b.wh b.vl b.vh _ rfl ga.iu0 gb.iu0 w)
  show Tn.orM a.tv a.tm b.tv b.tm = 0#64
  rw [show a.tm = 0#64 by rw [pa]; rfl, show b.tm = 0#64 by rw [pb]; rfl]
  unfold Tn.orM
  rw [iv_or0, and_z]
theorem d_xor {a b : Bd} {x y : BitVec 64} (ga : Good a) (gb : Good b) (ka : Has a x) (kb : Has b y) : Deed 131 a b x y (x ^^^ y) True := by
  have hz := has_any (x ^^^ y)
  have hk : Has (⟨(a.tv ^^^ b.tv) &&& ~~~(a.tm ||| b.tm), a.tm ||| b.tm, 0, 18446744073709551615, -9223372036854775808, 9223372036854775807, 0, 4294967295, -2147483648, 2147483647⟩ : Bd) (x ^^^ y) := ⟨t_of (Tn.Tn.ok_cut _ _) (Tn.Tn.xor_sound ka.th kb.th (Tn.xor_bit ga.ok gb.ok)), hz.u0, hz.u1, hz.s0, hz.s1, hz.w0, hz.w1, hz.v0, hz.v1⟩
  have hg : Good (⟨(a.tv ^^^ b.tv) &&& ~~~(a.tm ||| b.tm), a.tm ||| b.tm, 0, 18446744073709551615, -9223372036854775808, 9223372036854775807, 0, 4294967295, -2147483648, 2147483647⟩ : Bd) := good_by (Tn.Tn.ok_cut _ _) hk (Int.le_refl _) (Int.le_refl _) (Int.le_refl _) (Int.le_refl _) (Int.le_refl _) (Int.le_refl _) (Int.le_refl _) (Int.le_refl _)
  refine deed_of hg hk (fun _ pa pb => .inl ?_) (fun w => xored_any a.tv a.tm a.ul a.uh a.sl a.sh a.wl a.wh a.vl a.vh b.tv b.tm b.ul b.uh b.sl b.sh b.wl b.wh b.vl b.vh _ rfl w)
  show a.tm ||| b.tm = 0#64
  rw [show a.tm = 0#64 by rw [pa]; rfl, show b.tm = 0#64 by rw [pb]; rfl, iv_or0]
end Go.Proofs.YtekenpgagfmgkaaGreat
end
section
namespace Go.Proofs.YtekenpgagfmgkaaGreat
open Go.ChangeShapes Go.WideShapes Go.ChangeAt Go.RowKit
open Tn (iv)
set_option linter.unusedVariables false
set_option linter.unusedSimpArgs false
set_option maxRecDepth 20000

theorem wp_assign {o : Oper} {a : Act} {w : World} {K : Act → World → Prop} {Q : Exit → Act → World → Prop} {x : Operand} {v : Value} (ho : o.op = .assign x) (hx : a.eval x = v) (hK : K (a.put o.dst v) w) : o.wp Tryz.prog a w K Q := by
  obtain ⟨dst, op, ty, pos, after, guard⟩ := o
  subst ho
  unfold Oper.wp
  simp only [execOp, hx]
  go_simp
  exact hK
set_option maxHeartbeats 4000000 in
theorem does_w {a b C : Bd} {f : FuncId} {k : Int} (ga : Good a) (gb : Good b) (hl : ∀ (w : World) (g : Nat), w.heap[g]? = some (.map deedsT.toArray 13) → (Instr.lookup 84 (.map (some g)) (.int .u8 k) true).run Tryz.prog w = .ok (.tuple #[.func (.func f) #[] #[], .bool true]) w) (hfn : ∀ u v w, (callFunc f #[u, v]).run Tryz.prog w = .ok (.enter f #[u, v]) w) (cf : ∀ w, Calls Tryz.prog f #[.agg (bv a), .agg (bv b)] w fun e w' => e = .returned (.agg (bv C)) ∧ Gr w w') (w : World) : Calls Tryz.prog 24 #[.int .u8 k, .bool true, .agg (bv a), .agg (bv b)] w fun e w' => e = .returned (.tuple #[.agg (bv C), .int .i64 0]) ∧ Gr w w' := by
  have hfn := hfn (.agg (bv a)) (.agg (bv b))
  go_enter Tryz.func24, Tryz.ntmps24
  go_upto_region 1 with fail
  have HA : AtA (((w.alloc (.cells (bv a) 30)).alloc (.cells (bv b) 30)).alloc (.cells (bv zeroM) 30)) w.heap.size (bv a) 30 := ((AtA.newb _ rfl _ _).alloc _).alloc _
  have HB : AtA (((w.alloc (.cells (bv a) 30)).alloc (.cells (bv b) 30)).alloc (.cells (bv zeroM) 30)) (w.heap.size + 1) (bv b) 30 := (AtA.newb _ (by simp) _ _).alloc _
  have HR : AtA (((w.alloc (.cells (bv a) 30)).alloc (.cells (bv b) 30)).alloc (.cells (bv zeroM) 30)) (w.heap.size + 1 + 1) (bv zeroM) 30 := AtA.newb _ (by simp) _ _
  have HF : Gr w (((w.alloc (.cells (bv a) 30)).alloc (.cells (bv b) 30)).alloc (.cells (bv zeroM) 30)) := Gr.alloc (Gr.alloc (Gr.alloc (Gr.refl w) _ _) _ _) _ _
  have nAR : w.heap.size ≠ w.heap.size + 1 + 1 := by omega
  have nBR : w.heap.size + 1 ≠ w.heap.size + 1 + 1 := by omega
  have hPR : w.heap.size ≤ w.heap.size + 1 + 1 := by omega
  revert HA HB HR HF nAR nBR hPR
  rw [bv_zero]
  generalize (((w.alloc (.cells (bv a) 30)).alloc (.cells (bv b) 30)).alloc (.cells _ 30)) = W0
  generalize w.heap.size + 1 + 1 = PR
  generalize w.heap.size + 1 = PB
  generalize hw0 : w.heap.size = PA
  intro HA HB HR HF nAR nBR hPR
  rw [← hw0] at hPR
  rw [← bv_zero] at HR
  go_upto_region 4 with (first | (go_at_call 64; refine (deeds_gr _).mono ?_; rintro e w1 ⟨g, rfl, hb, hg⟩; have hl1 := hl w1 g hb))
  have HA1 := HA.gr hg
  have HB1 := HB.gr hg
  have HR1 := HR.gr hg
  have HF1 := HF.trans hg
  refine wp_region_seqq (C := Gr w1) (Gr.refl _) ?_
  refine q_do (by rfl) ?_
  refine q_loadB rfl rfl (fun w h => (HA1).gr h) ?_
  refine q_do (by rfl) ?_
  refine q_call1 rfl rfl (fun w => by go_simp) (grc (fun w => k_none a w) (by rw [nnB_of ga])) ?_
  refine q_do (by rfl) ?_
  refine q_move (v := .bool false) rfl rfl ?_
  simp only [Act.put, List.setIfInBounds_toArray, List.set_cons_zero, List.set_cons_succ]
  refine q_do (by rfl) ?_
  refine q_loadB rfl rfl (fun w h => (HB1).gr h) ?_
  refine q_do (by rfl) ?_
  refine q_call1 rfl rfl (fun w => by go_simp) (grc (fun w => k_none b w) (by rw [nnB_of gb])) ?_
  refine q_do (by rfl) ?_
  refine q_pickF (v := .bool false) rfl rfl rfl ?_
  simp only [Act.put, List.setIfInBounds_toArray, List.set_cons_zero, List.set_cons_succ]
  refine q_do (by rfl) ?_
  refine q_assign (v := .bool false) rfl rfl ?_
  simp only [Act.put, List.setIfInBounds_toArray, List.set_cons_zero, List.set_cons_succ]
  intro wq1 hq1
  have hPA_1 := (HA1).gr hq1
  have hPB_1 := (HB1).gr hq1
  have hPR_1 := (HR1).gr hq1
  have hF_1 := (HF1).trans hq1
  go_upto_region 7 with fail
  refine wp_region_sqn (C := Gr wq1) 4 (by kernel_rfl) (Gr.refl _) ?_
  refine q_do (by rfl) ?_
  refine q_move (v := .func (.func f) #[] #[]) rfl rfl ?_
  refine q_do (by rfl) ?_
  refine q_loadB rfl rfl (fun w h => (hPA_1).gr h) ?_
  refine q_do (by rfl) ?_
  refine q_loadB rfl rfl (fun w h => (hPB_1).gr h) ?_
  simp only [Act.put, List.setIfInBounds_toArray, List.set_cons_zero, List.set_cons_succ]
  refine q_do (by rfl) ?_
  refine q_callv2 rfl rfl rfl rfl hfn (grc (cf) (rfl)) ?_
  simp only [Act.put, List.setIfInBounds_toArray, List.set_cons_zero, List.set_cons_succ]
  intro wq2 hq2
  have hPA_2 := (hPA_1).gr hq2
  have hPB_2 := (hPB_1).gr hq2
  have hPR_2 := (hPR_1).gr hq2
  have hF_2 := (hF_1).trans hq2
  refine seq_do ?_
  refine wp_storeB rfl rfl rfl (hPR_2) ?_
  intro ws3 hs3 gx3
  have hPA_3 := (hPA_2).grx gx3 nAR
  have hPB_3 := (hPB_2).grx gx3 nBR
  have hF_3 := gx3.gr _ (hF_2) hPR
  refine seq_do ?_
  refine wp_assign (v := .int .i64 0) rfl rfl ?_
  simp only [Act.put, List.setIfInBounds_toArray, List.set_cons_zero, List.set_cons_succ]
  refine seq_end ?_
  obtain ⟨r0, r1, r2, r3, r4, r5, r6, r7, r8, r9⟩ := cells_bv (hs3)
  go_wp2
  refine bodyPost_ret (by simp [results, Tryz.results24, go_sem, r0, r1, r2, r3, r4, r5, r6, r7, r8, r9]; try rfl) rfl ?_
  exact ⟨rfl, hF_3⟩
set_option maxHeartbeats 4000000 in
theorem does_n {a b C : Bd} {f : FuncId} {k : Int} (ga : Good a) (gb : Good b) (hl : ∀ (w : World) (g : Nat), w.heap[g]? = some (.map deedsT.toArray 13) → (Instr.lookup 84 (.map (some g)) (.int .u8 k) true).run Tryz.prog w = .ok (.tuple #[.func (.func f) #[] #[], .bool true]) w) (cn : ∀ w, Calls Tryz.prog 65 #[.int .u8 k, .func (.func f) #[] #[], .agg (bv a), .agg (bv b)] w fun e w' => e = .returned (.agg (bv C)) ∧ Gr w w') (w : World) : Calls Tryz.prog 24 #[.int .u8 k, .bool false, .agg (bv a), .agg (bv b)] w fun e w' => e = .returned (.tuple #[.agg (bv C), .int .i64 0]) ∧ Gr w w' := by
  go_enter Tryz.func24, Tryz.ntmps24
  go_upto_region 1 with fail
  have HA : AtA (((w.alloc (.cells (bv a) 30)).alloc (.cells (bv b) 30)).alloc (.cells (bv zeroM) 30)) w.heap.size (bv a) 30 := ((AtA.newb _ rfl _ _).alloc _).alloc _
  have HB : AtA (((w.alloc (.cells (bv a) 30)).alloc (.cells (bv b) 30)).alloc (.cells (bv zeroM) 30)) (w.heap.size + 1) (bv b) 30 := (AtA.newb _ (by simp) _ _).alloc _
  have HR : AtA (((w.alloc (.cells (bv a) 30)).alloc (.cells (bv b) 30)).alloc (.cells (bv zeroM) 30)) (w.heap.size + 1 + 1) (bv zeroM) 30 := AtA.newb _ (by simp) _ _
  have HF : Gr w (((w.alloc (.cells (bv a) 30)).alloc (.cells (bv b) 30)).alloc (.cells (bv zeroM) 30)) := Gr.alloc (Gr.alloc (Gr.alloc (Gr.refl w) _ _) _ _) _ _
  have nAR : w.heap.size ≠ w.heap.size + 1 + 1 := by omega
  have nBR : w.heap.size + 1 ≠ w.heap.size + 1 + 1 := by omega
  have hPR : w.heap.size ≤ w.heap.size + 1 + 1 := by omega
  revert HA HB HR HF nAR nBR hPR
  rw [bv_zero]
  generalize (((w.alloc (.cells (bv a) 30)).alloc (.cells (bv b) 30)).alloc (.cells _ 30)) = W0
  generalize w.heap.size + 1 + 1 = PR
  generalize w.heap.size + 1 = PB
  generalize hw0 : w.heap.size = PA
  intro HA HB HR HF nAR nBR hPR
  rw [← hw0] at hPR
  rw [← bv_zero] at HR
  go_upto_region 4 with (first | (go_at_call 64; refine (deeds_gr _).mono ?_; rintro e w1 ⟨g, rfl, hb, hg⟩; have hl1 := hl w1 g hb))
  have HA1 := HA.gr hg
  have HB1 := HB.gr hg
  have HR1 := HR.gr hg
  have HF1 := HF.trans hg
  refine wp_region_seqq (C := Gr w1) (Gr.refl _) ?_
  refine q_do (by rfl) ?_
  refine q_loadB rfl rfl (fun w h => (HA1).gr h) ?_
  refine q_do (by rfl) ?_
  refine q_call1 rfl rfl (fun w => by go_simp) (grc (fun w => k_none a w) (by rw [nnB_of ga])) ?_
  refine q_do (by rfl) ?_
  refine q_move (v := .bool false) rfl rfl ?_
  simp only [Act.put, List.setIfInBounds_toArray, List.set_cons_zero, List.set_cons_succ]
  refine q_do (by rfl) ?_
  refine q_loadB rfl rfl (fun w h => (HB1).gr h) ?_
  refine q_do (by rfl) ?_
  refine q_call1 rfl rfl (fun w => by go_simp) (grc (fun w => k_none b w) (by rw [nnB_of gb])) ?_
  refine q_do (by rfl) ?_
  refine q_pickF (v := .bool false) rfl rfl rfl ?_
  simp only [Act.put, List.setIfInBounds_toArray, List.set_cons_zero, List.set_cons_succ]
  refine q_do (by rfl) ?_
  refine q_assign (v := .bool false) rfl rfl ?_
  simp only [Act.put, List.setIfInBounds_toArray, List.set_cons_zero, List.set_cons_succ]
  intro wq1 hq1
  have hPA_1 := (HA1).gr hq1
  have hPB_1 := (HB1).gr hq1
  have hPR_1 := (HR1).gr hq1
  have hF_1 := (HF1).trans hq1
  go_upto_region 8 with fail
  refine wp_region_sqn (C := Gr wq1) 5 (by kernel_rfl) (Gr.refl _) ?_
  refine q_do (by rfl) ?_
  refine q_move (v := .int .u8 k) rfl rfl ?_
  refine q_do (by rfl) ?_
  refine q_move (v := .func (.func f) #[] #[]) rfl rfl ?_
  refine q_do (by rfl) ?_
  refine q_loadB rfl rfl (fun w h => (hPA_1).gr h) ?_
  simp only [Act.put, List.setIfInBounds_toArray, List.set_cons_zero, List.set_cons_succ]
  refine q_do (by rfl) ?_
  refine q_loadB rfl rfl (fun w h => (hPB_1).gr h) ?_
  refine q_do (by rfl) ?_
  refine q_call4 rfl rfl rfl rfl rfl (fun w => by go_simp) (grc (cn) (rfl)) ?_
  simp only [Act.put, List.setIfInBounds_toArray, List.set_cons_zero, List.set_cons_succ]
  intro wq2 hq2
  have hPA_2 := (hPA_1).gr hq2
  have hPB_2 := (hPB_1).gr hq2
  have hPR_2 := (hPR_1).gr hq2
  have hF_2 := (hF_1).trans hq2
  refine seq_do ?_
  refine wp_storeB rfl rfl rfl (hPR_2) ?_
  intro ws3 hs3 gx3
  have hPA_3 := (hPA_2).grx gx3 nAR
  have hPB_3 := (hPB_2).grx gx3 nBR
  have hF_3 := gx3.gr _ (hF_2) hPR
  refine seq_do ?_
  refine wp_assign (v := .int .i64 0) rfl rfl ?_
  simp only [Act.put, List.setIfInBounds_toArray, List.set_cons_zero, List.set_cons_succ]
  refine seq_end ?_
  obtain ⟨r0, r1, r2, r3, r4, r5, r6, r7, r8, r9⟩ := cells_bv (hs3)
  go_wp2
  refine bodyPost_ret (by simp [results, Tryz.results24, go_sem, r0, r1, r2, r3, r4, r5, r6, r7, r8, r9]; try rfl) rfl ?_
  exact ⟨rfl, hF_3⟩
end Go.Proofs.YtekenpgagfmgkaaGreat
end
section
namespace Go.Proofs.YtekenpgagfmgkaaGreat
open Go.ChangeShapes Go.WideShapes Go.ChangeAt Go.RowKit
open Tn (iv)
set_option linter.unusedVariables false
set_option linter.unusedSimpArgs false
set_option maxRecDepth 20000

theorem six_mod (y : BitVec 64) : (y &&& (1#64 <<< 6 - 1#64)).toNat = (iv y % 64).toNat := by
  have h : ((1#64 <<< 6 - 1#64)) = 63#64 := by decide
  rw [h, BitVec.toNat_and]
  have e : (63#64).toNat = 2 ^ 6 - 1 := rfl
  rw [e, Nat.and_two_pow_sub_one_eq_mod]
  unfold Tn.iv
  omega
theorem five_mod (y : BitVec 64) : (y &&& (1#64 <<< 5 - 1#64) &&& (1#64 <<< 6 - 1#64)).toNat = (iv y % 32).toNat := by
  have h : ((1#64 <<< 6 - 1#64)) = 63#64 := by decide
  have h5 : ((1#64 <<< 5 - 1#64)) = 31#64 := by decide
  rw [h, h5, BitVec.toNat_and, BitVec.toNat_and]
  have e : (63#64).toNat = 2 ^ 6 - 1 := rfl
  have e5 : (31#64).toNat = 2 ^ 5 - 1 := rfl
  rw [e, e5, Nat.and_two_pow_sub_one_eq_mod, Nat.and_two_pow_sub_one_eq_mod]
  unfold Tn.iv
  omega
theorem m32 (z : BitVec 64) : iv (z &&& (1#64 <<< 32 - 1#64)) = iv z % 4294967296 := low_mod z
theorem lw8 (z : BitVec 64) : Wd.lowV (iv z) 8 = iv z := by
  have := iv_range z
  simp [Wd.lowV, Wd.isz]
  omega
theorem lw4 (x : Int) : Wd.lowV x 4 = x % 4294967296 := by simp [Wd.lowV, Wd.isz]
theorem szt : Wd.sz true = 8 := rfl
theorem szf : Wd.sz false = 4 := rfl
theorem iv_toNat (x : BitVec 64) : (iv x).toNat = x.toNat := by
  unfold Tn.iv
  omega
theorem sgn8 (x : BitVec 64) : Wd.signV (iv x) 8 = wrap64 (iv x) := by
  have := iv_range x
  simp [Wd.signV, Wd.isz]
  unfold wrap64
  split <;> omega
theorem sgn4 (X : Int) : Wd.signV (X % 4294967296) 4 = sg X := by
  simp [Wd.signV, Wd.isz]
  unfold sg
  split <;> omega
theorem sar_w (x : BitVec 64) {n : Nat} (h : n ≤ 63) : IntKind.u64.wrap (wrap64 (iv x) / 2 ^ n) = iv (x.sshiftRight n) := by
  have := sar_iv x h
  rw [Nat.min_eq_left h] at this
  rw [this]
  exact bare_wrap _
theorem shl_w (x : BitVec 64) {n : Nat} (h : n ≤ 63) : IntKind.u64.wrap (iv x * 2 ^ n) = iv (x <<< n) := by
  have := shl_iv x h
  rw [Nat.min_eq_left (by omega)] at this
  exact this
theorem shr_w (x : BitVec 64) {n : Nat} (h : n ≤ 63) : iv x / 2 ^ n = iv (x >>> n) := by
  have := shr_iv x h
  rw [Nat.min_eq_left (by omega)] at this
  exact this
theorem m64 (X : Int) : (X % 64).toNat ≤ 63 := by omega
theorem m32b (X : Int) : (X % 32).toNat ≤ 63 := by omega
theorem div_i (x y : BitVec 64) : iv x / iv y = iv (if y = 0#64 then 0#64 else x / y) := by
  rw [iv_div]
  split
  · rename_i h
    rw [h, Int.ediv_zero]
  · rfl
theorem mod_i (x y : BitVec 64) : iv x % iv y = iv (if y = 0#64 then x else x % y) := by
  rw [iv_mod]
  split
  · rename_i h
    rw [h, Int.emod_zero]
  · rfl
theorem or_i (x y : BitVec 64) : bits .or .u64 (iv x) (iv y) = iv (x ||| y) := by
  rw [Wd.or_nat _ _ (iv_range x) (iv_range y), iv_toNat, iv_toNat]
  unfold Tn.iv
  rw [BitVec.toNat_or]
theorem and_i (x y : BitVec 64) : bits .and .u64 (iv x) (iv y) = iv (x &&& y) := by
  rw [Wd.and_nat _ _ (iv_range x) (iv_range y), iv_toNat, iv_toNat]
  unfold Tn.iv
  rw [BitVec.toNat_and]
theorem xor_i (x y : BitVec 64) : bits .xor .u64 (iv x) (iv y) = iv (x ^^^ y) := by
  rw [Wd.xor_nat _ _ (iv_range x) (iv_range y), iv_toNat, iv_toNat]
  unfold Tn.iv
  rw [BitVec.toNat_xor]
theorem low_m (x : BitVec 64) : iv x % (4294967296 : Int) = iv (x &&& (1#64 <<< 32 - 1#64)) := (m32 x).symm
theorem mm32 (X : Int) : X % 4294967296 % 32 = X % 32 := by omega
/-- What Does makes of code k. -/
def Done (k : Int) (wd : Bool) (a b : Bd) (x y : BitVec 64) (p : Prop) : Prop :=
  ∃ z : BitVec 64, iv z = Wd.doesV wd k (iv x) (iv y) ∧ ∃ C : Bd, Good C ∧ Has C z ∧ (p → a = constM x → b = constM y → C = constM z) ∧ ∀ w, Calls Tryz.prog 24 #[.int .u8 k, .bool wd, .agg (bv a), .agg (bv b)] w fun e w' => e = .returned (.tuple #[.agg (bv C), .int .i64 0]) ∧ Gr w w'
theorem Done.imp {k : Int} {wd : Bool} {a b : Bd} {x y : BitVec 64} {p q : Prop} (h : Done k wd a b x y p) (hq : q → p) : Done k wd a b x y q := by
  obtain ⟨z, hz, C, h1, h2, h3, h4⟩ := h
  exact ⟨z, hz, C, h1, h2, fun hh => h3 (hq hh), h4⟩
theorem dw_add {a b : Bd} {x y : BitVec 64} (ga : Good a) (gb : Good b) (ka : Has a x) (kb : Has b y) : Done 0 true a b x y (True) := by
  obtain ⟨C, h1, h2, h3, cf⟩ := d_add (a := a) (b := b) (x := x) (y := y) ga gb ka kb
  refine ⟨(x + y), ?_, C, h1, h2, h3, fun w => does_w ga gb look0 (fun _ _ _ => by go_simp) cf w⟩
  simp only [Wd.doesV, Wd.rawV, szt, lw8, Int.reduceEq, Int.reduceLE, Int.reduceMul, reduceIte]
  rw [wr64, ← iv_addm]
  rw [lw8]
theorem dn_add {a b : Bd} {x y : BitVec 64} (ga : Good a) (gb : Good b) (ka : Has a x) (kb : Has b y) : Done 0 false a b x y (True) := by
  obtain ⟨C, h1, h2, h3, cn⟩ := n_plain (k := 0) (x := x) (y := y) (p := True) ga gb ka kb (fun _ _ _ => by go_simp) (by decide) (by decide) (by decide) (fun ga gb ka kb => d_add ga gb ka kb)
  refine ⟨((x &&& (1#64 <<< 32 - 1#64)) + (y &&& (1#64 <<< 32 - 1#64))) &&& (1#64 <<< 32 - 1#64), ?_, C, h1, h2, h3, fun w => does_n ga gb look0 cn w⟩
  simp only [Wd.doesV, Wd.rawV, szf, lw4, Int.reduceEq, Int.reduceLE, Int.reduceMul, reduceIte]
  rw [low_m x, low_m y, wr64, ← iv_addm, m32]
theorem dw_sub {a b : Bd} {x y : BitVec 64} (ga : Good a) (gb : Good b) (ka : Has a x) (kb : Has b y) : Done 1 true a b x y (True) := by
  obtain ⟨C, h1, h2, h3, cf⟩ := d_sub (a := a) (b := b) (x := x) (y := y) ga gb ka kb
  refine ⟨(x - y), ?_, C, h1, h2, h3, fun w => does_w ga gb look1 (fun _ _ _ => by go_simp) cf w⟩
  simp only [Wd.doesV, Wd.rawV, szt, lw8, Int.reduceEq, Int.reduceLE, Int.reduceMul, reduceIte]
  rw [wr64, ← iv_subm]
  rw [lw8]
theorem dn_sub {a b : Bd} {x y : BitVec 64} (ga : Good a) (gb : Good b) (ka : Has a x) (kb : Has b y) : Done 1 false a b x y (True) := by
  obtain ⟨C, h1, h2, h3, cn⟩ := n_plain (k := 1) (x := x) (y := y) (p := True) ga gb ka kb (fun _ _ _ => by go_simp) (by decide) (by decide) (by decide) (fun ga gb ka kb => d_sub ga gb ka kb)
  refine ⟨((x &&& (1#64 <<< 32 - 1#64)) - (y &&& (1#64 <<< 32 - 1#64))) &&& (1#64 <<< 32 - 1#64), ?_, C, h1, h2, h3, fun w => does_n ga gb look1 cn w⟩
  simp only [Wd.doesV, Wd.rawV, szf, lw4, Int.reduceEq, Int.reduceLE, Int.reduceMul, reduceIte]
  rw [low_m x, low_m y, wr64, ← iv_subm, m32]
theorem dw_mul {a b : Bd} {x y : BitVec 64} (ga : Good a) (gb : Good b) (ka : Has a x) (kb : Has b y) : Done 2 true a b x y (True) := by
  obtain ⟨C, h1, h2, h3, cf⟩ := d_mul (a := a) (b := b) (x := x) (y := y) ga gb ka kb
  refine ⟨(x * y), ?_, C, h1, h2, h3, fun w => does_w ga gb look2 (fun _ _ _ => by go_simp) cf w⟩
  simp only [Wd.doesV, Wd.rawV, szt, lw8, Int.reduceEq, Int.reduceLE, Int.reduceMul, reduceIte]
  rw [wr64, ← iv_mulm]
  rw [lw8]
theorem dn_mul {a b : Bd} {x y : BitVec 64} (ga : Good a) (gb : Good b) (ka : Has a x) (kb : Has b y) : Done 2 false a b x y (True) := by
  obtain ⟨C, h1, h2, h3, cn⟩ := n_plain (k := 2) (x := x) (y := y) (p := True) ga gb ka kb (fun _ _ _ => by go_simp) (by decide) (by decide) (by decide) (fun ga gb ka kb => d_mul ga gb ka kb)
  refine ⟨((x &&& (1#64 <<< 32 - 1#64)) * (y &&& (1#64 <<< 32 - 1#64))) &&& (1#64 <<< 32 - 1#64), ?_, C, h1, h2, h3, fun w => does_n ga gb look2 cn w⟩
  simp only [Wd.doesV, Wd.rawV, szf, lw4, Int.reduceEq, Int.reduceLE, Int.reduceMul, reduceIte]
  rw [low_m x, low_m y, wr64, ← iv_mulm, m32]
theorem dw_div {a b : Bd} {x y : BitVec 64} (ga : Good a) (gb : Good b) (ka : Has a x) (kb : Has b y) : Done 3 true a b x y (y ≠ 0#64) := by
  obtain ⟨C, h1, h2, h3, cf⟩ := d_div (a := a) (b := b) (x := x) (y := y) ga gb ka kb
  refine ⟨(if y = 0#64 then 0#64 else x / y), ?_, C, h1, h2, h3, fun w => does_w ga gb look3 (fun _ _ _ => by go_simp) cf w⟩
  simp only [Wd.doesV, Wd.rawV, szt, lw8, Int.reduceEq, Int.reduceLE, Int.reduceMul, reduceIte]
  rw [div_i]
  rw [lw8]
theorem dn_div {a b : Bd} {x y : BitVec 64} (ga : Good a) (gb : Good b) (ka : Has a x) (kb : Has b y) : Done 3 false a b x y ((y &&& (1#64 <<< 32 - 1#64)) ≠ 0#64) := by
  obtain ⟨C, h1, h2, h3, cn⟩ := n_plain (k := 3) (x := x) (y := y) (p := (y &&& (1#64 <<< 32 - 1#64)) ≠ 0#64) ga gb ka kb (fun _ _ _ => by go_simp) (by decide) (by decide) (by decide) (fun ga gb ka kb => d_div ga gb ka kb)
  refine ⟨(if (y &&& (1#64 <<< 32 - 1#64)) = 0#64 then 0#64 else (x &&& (1#64 <<< 32 - 1#64)) / (y &&& (1#64 <<< 32 - 1#64))) &&& (1#64 <<< 32 - 1#64), ?_, C, h1, h2, h3, fun w => does_n ga gb look3 cn w⟩
  simp only [Wd.doesV, Wd.rawV, szf, lw4, Int.reduceEq, Int.reduceLE, Int.reduceMul, reduceIte]
  rw [low_m x, low_m y, div_i, m32]
theorem dw_mod {a b : Bd} {x y : BitVec 64} (ga : Good a) (gb : Good b) (ka : Has a x) (kb : Has b y) : Done 9 true a b x y (False) := by
  obtain ⟨C, h1, h2, h3, cf⟩ := d_mod (a := a) (b := b) (x := x) (y := y) ga gb ka kb
  refine ⟨(if y = 0#64 then x else x % y), ?_, C, h1, h2, h3, fun w => does_w ga gb look9 (fun _ _ _ => by go_simp) cf w⟩
  simp only [Wd.doesV, Wd.rawV, szt, lw8, Int.reduceEq, Int.reduceLE, Int.reduceMul, reduceIte]
  rw [mod_i]
  rw [lw8]
theorem dn_mod {a b : Bd} {x y : BitVec 64} (ga : Good a) (gb : Good b) (ka : Has a x) (kb : Has b y) : Done 9 false a b x y (False) := by
  obtain ⟨C, h1, h2, h3, cn⟩ := n_plain (k := 9) (x := x) (y := y) (p := False) ga gb ka kb (fun _ _ _ => by go_simp) (by decide) (by decide) (by decide) (fun ga gb ka kb => d_mod ga gb ka kb)
  refine ⟨(if (y &&& (1#64 <<< 32 - 1#64)) = 0#64 then (x &&& (1#64 <<< 32 - 1#64)) else (x &&& (1#64 <<< 32 - 1#64)) % (y &&& (1#64 <<< 32 - 1#64))) &&& (1#64 <<< 32 - 1#64), ?_, C, h1, h2, h3, fun w => does_n ga gb look9 cn w⟩
  simp only [Wd.doesV, Wd.rawV, szf, lw4, Int.reduceEq, Int.reduceLE, Int.reduceMul, reduceIte]
  rw [low_m x, low_m y, mod_i, m32]
theorem dw_or {a b : Bd} {x y : BitVec 64} (ga : Good a) (gb : Good b) (ka : Has a x) (kb : Has b y) : Done 4 true a b x y (True) := by
  obtain ⟨C, h1, h2, h3, cf⟩ := d_or (a := a) (b := b) (x := x) (y := y) ga gb ka kb
  refine ⟨(x ||| y), ?_, C, h1, h2, h3, fun w => does_w ga gb look4 (fun _ _ _ => by go_simp) cf w⟩
  simp only [Wd.doesV, Wd.rawV, szt, lw8, Int.reduceEq, Int.reduceLE, Int.reduceMul, reduceIte]
  rw [or_i]
  rw [lw8]
theorem dn_or {a b : Bd} {x y : BitVec 64} (ga : Good a) (gb : Good b) (ka : Has a x) (kb : Has b y) : Done 4 false a b x y (True) := by
  obtain ⟨C, h1, h2, h3, cn⟩ := n_plain (k := 4) (x := x) (y := y) (p := True) ga gb ka kb (fun _ _ _ => by go_simp) (by decide) (by decide) (by decide) (fun ga gb ka kb => d_or ga gb ka kb)
  refine ⟨((x &&& (1#64 <<< 32 - 1#64)) ||| (y &&& (1#64 <<< 32 - 1#64))) &&& (1#64 <<< 32 - 1#64), ?_, C, h1, h2, h3, fun w => does_n ga gb look4 cn w⟩
  simp only [Wd.doesV, Wd.rawV, szf, lw4, Int.reduceEq, Int.reduceLE, Int.reduceMul, reduceIte]
  rw [low_m x, low_m y, or_i, m32]
theorem dw_and {a b : Bd} {x y : BitVec 64} (ga : Good a) (gb : Good b) (ka : Has a x) (kb : Has b y) : Done 5 true a b x y (True) := by
  obtain ⟨C, h1, h2, h3, cf⟩ := d_and (a := a) (b := b) (x := x) (y := y) ga gb ka kb
  refine ⟨(x &&& y), ?_, C, h1, h2, h3, fun w => does_w ga gb look5 (fun _ _ _ => by go_simp) cf w⟩
  simp only [Wd.doesV, Wd.rawV, szt, lw8, Int.reduceEq, Int.reduceLE, Int.reduceMul, reduceIte]
  rw [and_i]
  rw [lw8]
theorem dn_and {a b : Bd} {x y : BitVec 64} (ga : Good a) (gb : Good b) (ka : Has a x) (kb : Has b y) : Done 5 false a b x y (True) := by
  obtain ⟨C, h1, h2, h3, cn⟩ := n_plain (k := 5) (x := x) (y := y) (p := True) ga gb ka kb (fun _ _ _ => by go_simp) (by decide) (by decide) (by decide) (fun ga gb ka kb => d_and ga gb ka kb)
  refine ⟨((x &&& (1#64 <<< 32 - 1#64)) &&& (y &&& (1#64 <<< 32 - 1#64))) &&& (1#64 <<< 32 - 1#64), ?_, C, h1, h2, h3, fun w => does_n ga gb look5 cn w⟩
  simp only [Wd.doesV, Wd.rawV, szf, lw4, Int.reduceEq, Int.reduceLE, Int.reduceMul, reduceIte]
  rw [low_m x, low_m y, and_i, m32]
theorem dw_xor {a b : Bd} {x y : BitVec 64} (ga : Good a) (gb : Good b) (ka : Has a x) (kb : Has b y) : Done 10 true a b x y (True) := by
  obtain ⟨C, h1, h2, h3, cf⟩ := d_xor (a := a) (b := b) (x := x) (y := y) ga gb ka kb
  refine ⟨(x ^^^ y), ?_, C, h1, h2, h3, fun w => does_w ga gb look10 (fun _ _ _ => by go_simp) cf w⟩
  simp only [Wd.doesV, Wd.rawV, szt, lw8, Int.reduceEq, Int.reduceLE, Int.reduceMul, reduceIte]
  rw [xor_i]
  rw [lw8]
theorem dn_xor {a b : Bd} {x y : BitVec 64} (ga : Good a) (gb : Good b) (ka : Has a x) (kb : Has b y) : Done 10 false a b x y (True) := by
  obtain ⟨C, h1, h2, h3, cn⟩ := n_plain (k := 10) (x := x) (y := y) (p := True) ga gb ka kb (fun _ _ _ => by go_simp) (by decide) (by decide) (by decide) (fun ga gb ka kb => d_xor ga gb ka kb)
  refine ⟨((x &&& (1#64 <<< 32 - 1#64)) ^^^ (y &&& (1#64 <<< 32 - 1#64))) &&& (1#64 <<< 32 - 1#64), ?_, C, h1, h2, h3, fun w => does_n ga gb look10 cn w⟩
  simp only [Wd.doesV, Wd.rawV, szf, lw4, Int.reduceEq, Int.reduceLE, Int.reduceMul, reduceIte]
  rw [low_m x, low_m y, xor_i, m32]
theorem dw_shl {a b : Bd} {x y : BitVec 64} (ga : Good a) (gb : Good b) (ka : Has a x) (kb : Has b y) : Done 6 true a b x y (True) := by
  obtain ⟨C, h1, h2, h3, cf⟩ := (d_shl (x := x) (y := y) ga gb ka kb).deed
  refine ⟨(x <<< (y &&& (1#64 <<< 6 - 1#64)).toNat), ?_, C, h1, h2, h3, fun w => does_w ga gb look6 (fun _ _ _ => by go_simp) cf w⟩
  rw [six_mod]
  simp only [Wd.doesV, Wd.rawV, szt, lw8, Int.reduceEq, Int.reduceLE, Int.reduceMul, reduceIte]
  rw [shl_w x (m64 _)]
  rw [lw8]
theorem dn_shl {a b : Bd} {x y : BitVec 64} (ga : Good a) (gb : Good b) (ka : Has a x) (kb : Has b y) : Done 6 false a b x y (True) := by
  obtain ⟨C, h1, h2, h3, cn⟩ := n_shift (k := 6) (x := x) (y := y) ga gb ka kb (fun _ _ _ => by go_simp) (by decide) (.inl rfl) (fun ga gb ka kb => d_shl (y := y &&& (1#64 <<< 5 - 1#64)) ga gb ka kb)
  refine ⟨((x &&& (1#64 <<< 32 - 1#64)) <<< (y &&& (1#64 <<< 5 - 1#64) &&& (1#64 <<< 6 - 1#64)).toNat) &&& (1#64 <<< 32 - 1#64), ?_, C, h1, h2, fun _ => h3, fun w => does_n ga gb look6 cn w⟩
  rw [five_mod]
  simp only [Wd.doesV, Wd.rawV, szf, lw4, Int.reduceEq, Int.reduceLE, Int.reduceMul, reduceIte]
  rw [mm32, low_m x, shl_w _ (m32b _), m32]
theorem dw_shr {a b : Bd} {x y : BitVec 64} (ga : Good a) (gb : Good b) (ka : Has a x) (kb : Has b y) : Done 7 true a b x y (True) := by
  obtain ⟨C, h1, h2, h3, cf⟩ := (d_shr (x := x) (y := y) ga gb ka kb).deed
  refine ⟨(x >>> (y &&& (1#64 <<< 6 - 1#64)).toNat), ?_, C, h1, h2, h3, fun w => does_w ga gb look7 (fun _ _ _ => by go_simp) cf w⟩
  rw [six_mod]
  simp only [Wd.doesV, Wd.rawV, szt, lw8, Int.reduceEq, Int.reduceLE, Int.reduceMul, reduceIte]
  rw [shr_w x (m64 _)]
  rw [lw8]
theorem dn_shr {a b : Bd} {x y : BitVec 64} (ga : Good a) (gb : Good b) (ka : Has a x) (kb : Has b y) : Done 7 false a b x y (True) := by
  obtain ⟨C, h1, h2, h3, cn⟩ := n_shift (k := 7) (x := x) (y := y) ga gb ka kb (fun _ _ _ => by go_simp) (by decide) (.inr rfl) (fun ga gb ka kb => d_shr (y := y &&& (1#64 <<< 5 - 1#64)) ga gb ka kb)
  refine ⟨((x &&& (1#64 <<< 32 - 1#64)) >>> (y &&& (1#64 <<< 5 - 1#64) &&& (1#64 <<< 6 - 1#64)).toNat) &&& (1#64 <<< 32 - 1#64), ?_, C, h1, h2, fun _ => h3, fun w => does_n ga gb look7 cn w⟩
  rw [five_mod]
  simp only [Wd.doesV, Wd.rawV, szf, lw4, Int.reduceEq, Int.reduceLE, Int.reduceMul, reduceIte]
  rw [mm32, low_m x, shr_w _ (m32b _), m32]
theorem dw_sar {a b : Bd} {x y : BitVec 64} (ga : Good a) (gb : Good b) (ka : Has a x) (kb : Has b y) : Done 12 true a b x y (True) := by
  obtain ⟨C, h1, h2, h3, cf⟩ := (d_sar (x := x) (y := y) ga gb ka kb).deed
  refine ⟨(x.sshiftRight (y &&& (1#64 <<< 6 - 1#64)).toNat), ?_, C, h1, h2, h3, fun w => does_w ga gb look12 (fun _ _ _ => by go_simp) cf w⟩
  rw [six_mod]
  simp only [Wd.doesV, Wd.rawV, szt, lw8, Int.reduceEq, Int.reduceLE, Int.reduceMul, reduceIte]
  rw [sgn8, sar_w x (m64 _)]
  rw [lw8]
theorem dn_sar {a b : Bd} {x y : BitVec 64} (ga : Good a) (gb : Good b) (ka : Has a x) (kb : Has b y) : Done 12 false a b x y (True) := by
  obtain ⟨C, h1, h2, h3, cn⟩ := n_arsh (x := x) (y := y) ga gb ka kb (fun _ _ _ => by go_simp) (fun ga gb ka kb => d_sar (y := y &&& (1#64 <<< 5 - 1#64)) ga gb ka kb)
  refine ⟨(((x <<< 32).sshiftRight 32).sshiftRight (y &&& (1#64 <<< 5 - 1#64) &&& (1#64 <<< 6 - 1#64)).toNat) &&& (1#64 <<< 32 - 1#64), ?_, C, h1, h2, fun _ => h3, fun w => does_n ga gb look12 cn w⟩
  rw [five_mod]
  simp only [Wd.doesV, Wd.rawV, szf, lw4, Int.reduceEq, Int.reduceLE, Int.reduceMul, reduceIte]
  rw [sgn4, ← slow_iv, mm32]
  rw [sar_w _ (m32b _), m32]
theorem dw_neg {a b : Bd} {x y : BitVec 64} (ga : Good a) (gb : Good b) (ka : Has a x) (kb : Has b y) : Done 8 true a b x y (True) := by
  obtain ⟨C, h1, h2, h3, cf⟩ := d_neg (a := a) (b := b) (x := x) (y := y) ga ka
  refine ⟨(0#64 - x), ?_, C, h1, h2, h3, fun w => does_w ga gb look8 (fun _ _ _ => by go_simp) cf w⟩
  simp only [Wd.doesV, Wd.rawV, szt, lw8, Int.reduceEq, Int.reduceLE, Int.reduceMul, reduceIte]
  rw [show -iv x = iv 0#64 - iv x by (show -iv x = 0 - iv x); omega, wr64, ← iv_subm]
  rw [lw8]
theorem dn_neg {a b : Bd} {x y : BitVec 64} (ga : Good a) (gb : Good b) (ka : Has a x) (kb : Has b y) : Done 8 false a b x y (True) := by
  obtain ⟨C, h1, h2, h3, cn⟩ := n_plain (k := 8) (x := x) (y := y) (p := True) ga gb ka kb (fun _ _ _ => by go_simp) (by decide) (by decide) (by decide) (fun ga gb ka kb => d_neg ga ka)
  refine ⟨(0#64 - (x &&& (1#64 <<< 32 - 1#64))) &&& (1#64 <<< 32 - 1#64), ?_, C, h1, h2, h3, fun w => does_n ga gb look8 cn w⟩
  simp only [Wd.doesV, Wd.rawV, szf, lw4, Int.reduceEq, Int.reduceLE, Int.reduceMul, reduceIte]
  rw [low_m x, show -iv (x &&& (1#64 <<< 32 - 1#64)) = iv 0#64 - iv (x &&& (1#64 <<< 32 - 1#64)) by (show -iv (x &&& (1#64 <<< 32 - 1#64)) = 0 - iv (x &&& (1#64 <<< 32 - 1#64))); omega, wr64, ← iv_subm, m32]
theorem dw_mov {a b : Bd} {x y : BitVec 64} (ga : Good a) (gb : Good b) (ka : Has a x) (kb : Has b y) : Done 11 true a b x y (True) := by
  obtain ⟨C, h1, h2, h3, cf⟩ := d_mov (a := a) (b := b) (x := x) (y := y) gb kb
  refine ⟨y, ?_, C, h1, h2, h3, fun w => does_w ga gb look11 (fun _ _ _ => by go_simp) cf w⟩
  simp only [Wd.doesV, Wd.rawV, szt, lw8, Int.reduceEq, Int.reduceLE, Int.reduceMul, reduceIte]
theorem dn_mov {a b : Bd} {x y : BitVec 64} (ga : Good a) (gb : Good b) (ka : Has a x) (kb : Has b y) : Done 11 false a b x y (True) := by
  obtain ⟨C, h1, h2, h3, cn⟩ := n_plain (k := 11) (x := x) (y := y) (p := True) ga gb ka kb (fun _ _ _ => by go_simp) (by decide) (by decide) (by decide) (fun ga gb ka kb => d_mov gb kb)
  refine ⟨(y &&& (1#64 <<< 32 - 1#64)) &&& (1#64 <<< 32 - 1#64), ?_, C, h1, h2, h3, fun w => does_n ga gb look11 cn w⟩
  simp only [Wd.doesV, Wd.rawV, szf, lw4, Int.reduceEq, Int.reduceLE, Int.reduceMul, reduceIte]
  rw [m32, m32]
theorem does_all {a b : Bd} {x y : BitVec 64} (ga : Good a) (gb : Good b) (ka : Has a x) (kb : Has b y) (k : Int) (h0 : 0 ≤ k) (h1 : k ≤ 12) (wd : Bool) : Done k wd a b x y (k ≠ 9 ∧ (k = 3 → Wd.lowV (iv y) (Wd.sz wd) ≠ 0)) := by
  have hk : k = 0 ∨ k = 1 ∨ k = 2 ∨ k = 3 ∨ k = 4 ∨ k = 5 ∨ k = 6 ∨ k = 7 ∨ k = 8 ∨ k = 9 ∨ k = 10 ∨ k = 11 ∨ k = 12 := by omega
  rcases hk with rfl | rfl | rfl | rfl | rfl | rfl | rfl | rfl | rfl | rfl | rfl | rfl | rfl <;> cases wd
  · exact (dn_add ga gb ka kb).imp (fun _ => trivial)
  · exact (dw_add ga gb ka kb).imp (fun _ => trivial)
  · exact (dn_sub ga gb ka kb).imp (fun _ => trivial)
  · exact (dw_sub ga gb ka kb).imp (fun _ => trivial)
  · exact (dn_mul ga gb ka kb).imp (fun _ => trivial)
  · exact (dw_mul ga gb ka kb).imp (fun _ => trivial)
  · exact (dn_div ga gb ka kb).imp (fun q h => q.2 rfl (by rw [szf, lw4, ← m32, h]; rfl))
  · exact (dw_div ga gb ka kb).imp (fun q h => q.2 rfl (by rw [szt, lw8, h]; rfl))
  · exact (dn_or ga gb ka kb).imp (fun _ => trivial)
  · exact (dw_or ga gb ka kb).imp (fun _ => trivial)
  · exact (dn_and ga gb ka kb).imp (fun _ => trivial)
  · exact (dw_and ga gb ka kb).imp (fun _ => trivial)
  · exact (dn_shl ga gb ka kb).imp (fun _ => trivial)
  · exact (dw_shl ga gb ka kb).imp (fun _ => trivial)
  · exact (dn_shr ga gb ka kb).imp (fun _ => trivial)
  · exact (dw_shr ga gb ka kb).imp (fun _ => trivial)
  · exact (dn_neg ga gb ka kb).imp (fun _ => trivial)
  · exact (dw_neg ga gb ka kb).imp (fun _ => trivial)
  · exact (dn_mod ga gb ka kb).imp (fun q => q.1 rfl)
  · exact (dw_mod ga gb ka kb).imp (fun q => q.1 rfl)
  · exact (dn_xor ga gb ka kb).imp (fun _ => trivial)
  · exact (dw_xor ga gb ka kb).imp (fun _ => trivial)
  · exact (dn_mov ga gb ka kb).imp (fun _ => trivial)
  · exact (dw_mov ga gb ka kb).imp (fun _ => trivial)
  · exact (dn_sar ga gb ka kb).imp (fun _ => trivial)
  · exact (dw_sar ga gb ka kb).imp (fun _ => trivial)
end Go.Proofs.YtekenpgagfmgkaaGreat
end
section
namespace Go.Proofs.YtekenpgagfmgkaaGreat
open Go.ChangeShapes Go.WideShapes Go.ChangeAt Go.RowKit
open Tn (iv)
set_option linter.unusedVariables false
set_option linter.unusedSimpArgs false
set_option maxRecDepth 20000

section
variable {o : Oper} {a : Act} {C : World → Prop} {K : Act → Prop} {x y : Operand}
theorem q_eql_u8 {m n : Int} {r : Bool} (ho : o.op = .binOp .eql 5 x y 5) (hx : a.eval x = .int .u8 m) (hy : a.eval y = .int .u8 n) (hr : (m == n) = r) (hK : K (a.put o.dst (.bool r))) : o.quiet Tryz.prog a C K := by
  refine q_run (v := .bool r) (fun w hw => ?_) hK
  obtain ⟨dst, op, ty, pos, after, guard⟩ := o
  subst ho
  subst hr
  simp only [execOp, hx, hy]
  go_simp
  try rfl
theorem q_neq_u8 {m n : Int} {r : Bool} (ho : o.op = .binOp .neq 5 x y 5) (hx : a.eval x = .int .u8 m) (hy : a.eval y = .int .u8 n) (hr : (!(m == n)) = r) (hK : K (a.put o.dst (.bool r))) : o.quiet Tryz.prog a C K := by
  refine q_run (v := .bool r) (fun w hw => ?_) hK
  obtain ⟨dst, op, ty, pos, after, guard⟩ := o
  subst ho
  subst hr
  simp only [execOp, hx, hy]
  go_simp
  try rfl
theorem q_eql_er {m n : Int} {r : Bool} (ho : o.op = .binOp .eql 45 x y 45) (hx : a.eval x = .int .i64 m) (hy : a.eval y = .int .i64 n) (hr : (m == n) = r) (hK : K (a.put o.dst (.bool r))) : o.quiet Tryz.prog a C K := by
  refine q_run (v := .bool r) (fun w hw => ?_) hK
  obtain ⟨dst, op, ty, pos, after, guard⟩ := o
  subst ho
  subst hr
  simp only [execOp, hx, hy]
  go_simp
  try rfl
theorem q_neq_er {m n : Int} {r : Bool} (ho : o.op = .binOp .neq 45 x y 45) (hx : a.eval x = .int .i64 m) (hy : a.eval y = .int .i64 n) (hr : (!(m == n)) = r) (hK : K (a.put o.dst (.bool r))) : o.quiet Tryz.prog a C K := by
  refine q_run (v := .bool r) (fun w hw => ?_) hK
  obtain ⟨dst, op, ty, pos, after, guard⟩ := o
  subst ho
  subst hr
  simp only [execOp, hx, hy]
  go_simp
  try rfl
theorem q_eql_u64 {m n : Int} {r : Bool} (ho : o.op = .binOp .eql 22 x y 22) (hx : a.eval x = .int .u64 m) (hy : a.eval y = .int .u64 n) (hr : (m == n) = r) (hK : K (a.put o.dst (.bool r))) : o.quiet Tryz.prog a C K := by
  refine q_run (v := .bool r) (fun w hw => ?_) hK
  obtain ⟨dst, op, ty, pos, after, guard⟩ := o
  subst ho
  subst hr
  simp only [execOp, hx, hy]
  go_simp
  try rfl
theorem q_neq_u64 {m n : Int} {r : Bool} (ho : o.op = .binOp .neq 22 x y 22) (hx : a.eval x = .int .u64 m) (hy : a.eval y = .int .u64 n) (hr : (!(m == n)) = r) (hK : K (a.put o.dst (.bool r))) : o.quiet Tryz.prog a C K := by
  refine q_run (v := .bool r) (fun w hw => ?_) hK
  obtain ⟨dst, op, ty, pos, after, guard⟩ := o
  subst ho
  subst hr
  simp only [execOp, hx, hy]
  go_simp
  try rfl
theorem q_rem64 {m n r : Int} (ho : o.op = .binOp .rem 22 x y 22) (hx : a.eval x = .int .u64 m) (hy : a.eval y = .int .u64 n) (hr : n ≠ 0 ∧ m.tmod n = r) (hK : K (a.put o.dst (.int .u64 r))) : o.quiet Tryz.prog a C K := by
  refine q_run (v := .int .u64 r) (fun w hw => ?_) hK
  obtain ⟨dst, op, ty, pos, after, guard⟩ := o
  subst ho
  obtain ⟨hn, rfl⟩ := hr
  simp only [execOp, hx, hy]
  go_simp
  try simp [hn]
theorem q_eqS {d : Bd} (ho : o.op = .binOp .eql 30 x y 30) (hx : a.eval x = .agg (bv d)) (hy : a.eval y = .agg (bv d)) (hK : K (a.put o.dst (.bool true))) : o.quiet Tryz.prog a C K := by
  refine q_run (v := .bool true) (fun w hw => ?_) hK
  obtain ⟨dst, op, ty, pos, after, guard⟩ := o
  subst ho
  simp only [execOp, hx, hy, bv]
  go_simp
end
theorem rem_k (x : BitVec 64) {n : Int} (hn : 0 < n) (h : n ≤ 18446744073709551615) : n ≠ 0 ∧ (iv x).tmod n = iv x % n :=
  ⟨by omega, Int.tmod_eq_emod_of_nonneg (iv_range x).1⟩
theorem m8 (x : BitVec 64) : iv (x &&& (1#64 <<< 8 - 1#64)) = iv x % 256 := by
  have h : (1#64 <<< 8 - 1#64) = 255#64 := by decide
  unfold Tn.iv
  rw [h, BitVec.toNat_and]
  have e : (255#64).toNat = 2 ^ 8 - 1 := rfl
  rw [e, Nat.and_two_pow_sub_one_eq_mod]
  omega
theorem m16 (x : BitVec 64) : iv (x &&& (1#64 <<< 16 - 1#64)) = iv x % 65536 := by
  have h : (1#64 <<< 16 - 1#64) = 65535#64 := by decide
  unfold Tn.iv
  rw [h, BitVec.toNat_and]
  have e : (65535#64).toNat = 2 ^ 16 - 1 := rfl
  rw [e, Nat.and_two_pow_sub_one_eq_mod]
  omega
theorem has_ix {c : Bd} {z : BitVec 64} {v : Int} (k : Has c z) (h : iv z = v) (w : World) : Calls Tryz.prog 18 #[.agg (bv c), .int .u64 v] w fun e w' => e = .returned (.bool true) ∧ Gr w w' := by
  subst h
  have := k_has c z w
  rw [(hasM_iff _ _).2 k] at this
  exact this
set_option maxHeartbeats 8000000 in
theorem sound_law (v u : Ab) (hv : AbOk v) (hu : AbOk u) (x y : BitVec 64) (k0 k : Int) (hk : 0 ≤ k ∧ k ≤ 12) (e1 : k0.tmod 13 = k) (e2 : IntKind.u8.wrap k = k) (wd : Bool) (w : World) : Calls Tryz.prog 6 #[.int .u64 (iv x), .int .u64 (iv y), .agg #[.int .u64 (iv v.ma), .int .u64 v.dn, .int .u64 v.up, .int .u64 v.ls, .int .u64 v.mo, .int .u32 v.hf, .int .u32 v.tp], .agg #[.int .u64 (iv u.ma), .int .u64 u.dn, .int .u64 u.up, .int .u64 u.ls, .int .u64 u.mo, .int .u32 u.hf, .int .u32 u.tp], .int .u8 k0, .bool wd] w fun e w' => e = .returned (.bool true) ∧ Gr w w' := by
  go_enter Tryz.func6, Tryz.ntmps6
  go_upto_region 1 with fail
  have HA : AtA ((w.alloc (.cells #[.int .u64 (iv v.ma), .int .u64 v.dn, .int .u64 v.up, .int .u64 v.ls, .int .u64 v.mo, .int .u32 v.hf, .int .u32 v.tp] 43)).alloc (.cells #[.int .u64 (iv u.ma), .int .u64 u.dn, .int .u64 u.up, .int .u64 u.ls, .int .u64 u.mo, .int .u32 u.hf, .int .u32 u.tp] 43)) w.heap.size (av v) 43 := (AtA.newb _ rfl _ _).alloc _
  have HB : AtA ((w.alloc (.cells #[.int .u64 (iv v.ma), .int .u64 v.dn, .int .u64 v.up, .int .u64 v.ls, .int .u64 v.mo, .int .u32 v.hf, .int .u32 v.tp] 43)).alloc (.cells #[.int .u64 (iv u.ma), .int .u64 u.dn, .int .u64 u.up, .int .u64 u.ls, .int .u64 u.mo, .int .u32 u.hf, .int .u32 u.tp] 43)) (w.heap.size + 1) (av u) 43 := AtA.newb _ (by simp) _ _
  have HF : Gr w ((w.alloc (.cells #[.int .u64 (iv v.ma), .int .u64 v.dn, .int .u64 v.up, .int .u64 v.ls, .int .u64 v.mo, .int .u32 v.hf, .int .u32 v.tp] 43)).alloc (.cells #[.int .u64 (iv u.ma), .int .u64 u.dn, .int .u64 u.up, .int .u64 u.ls, .int .u64 u.mo, .int .u32 u.hf, .int .u32 u.tp] 43)) := Gr.alloc (Gr.alloc (Gr.refl w) _ _) _ _
  revert HA HB HF
  generalize ((w.alloc (.cells #[.int .u64 (iv v.ma), .int .u64 v.dn, .int .u64 v.up, .int .u64 v.ls, .int .u64 v.mo, .int .u32 v.hf, .int .u32 v.tp] 43)).alloc (.cells #[.int .u64 (iv u.ma), .int .u64 u.dn, .int .u64 u.up, .int .u64 u.ls, .int .u64 u.mo, .int .u32 u.hf, .int .u32 u.tp] 43)) = W0
  generalize w.heap.size + 1 = XB
  generalize w.heap.size = XA
  intro HA HB HF
  go_cut [13, 14] (fun c13 c14 wx => ∃ (p1_6 : Nat) (p1_7 : Nat) (B1_2 : Bd) (B1_5 : Bd), c13 = .pointer (some ⟨p1_6, 0, none⟩) ∧ c14 = .pointer (some ⟨p1_7, 0, none⟩) ∧ Good B1_2 ∧ Has B1_2 x ∧ Good B1_5 ∧ Has B1_5 y ∧ AtA wx p1_6 (bv B1_2) 30 ∧ AtA wx p1_7 (bv B1_5) 30 ∧ p1_6 ≠ p1_7 ∧ W0.heap.size ≤ p1_6 ∧ W0.heap.size ≤ p1_7 ∧ Gr W0 wx)
  case first =>
    rename_i J K2 hJ hK2
    refine wp_region_inv (by kernel_rfl) (fun L ac wx => ∃ (y23 y24 y25 y26 y27 y28 y13 y14 : Value) (B1_2 : Bd) (B1_5 : Bd) (p1_6 : Nat) (p1_7 : Nat), ac = ⟨(.int .u64 (iv x) :: .int .u64 (iv y) :: .agg (av v) :: .agg (av u) :: .int .u8 k0 :: .bool wd :: undef :: undef :: .pointer (some ⟨XA, 0, none⟩) :: .pointer (some ⟨XB, 0, none⟩) :: undef :: undef :: .bool false :: y13 :: y14 :: undef :: undef :: undef :: undef :: undef :: undef :: undef :: undef :: y23 :: y24 :: y25 :: y26 :: y27 :: y28 :: undef :: undef :: undef :: undef :: undef :: undef :: undef :: undef :: undef :: undef :: undef :: undef :: undef :: undef :: undef :: undef :: undef :: undef :: undef :: undef :: undef :: undef :: undef :: undef :: undef :: undef :: undef :: undef :: undef :: undef :: undef :: undef :: undef :: undef :: undef :: undef :: undef :: undef :: undef :: undef :: undef :: undef :: undef :: undef :: undef :: undef :: undef :: undef :: undef :: undef :: undef :: undef :: undef :: undef :: undef :: undef :: undef :: undef :: undef :: undef :: undef :: undef :: undef :: undef :: undef :: undef :: undef :: undef :: undef :: undef :: undef :: undef :: undef :: undef :: undef :: undef :: [] : List Value).toArray, []⟩ ∧ Gr W0 wx ∧ (L 0 = true → y23 = .agg (av v)) ∧ (L 1 = true → y24 = .int .u64 (iv x)) ∧ (L 2 = true → Good B1_2 ∧ Has B1_2 x ∧ y25 = .agg (bv B1_2)) ∧ (L 3 = true → y26 = .agg (av u)) ∧ (L 4 = true → y27 = .int .u64 (iv y)) ∧ (L 5 = true → Good B1_5 ∧ Has B1_5 y ∧ y28 = .agg (bv B1_5)) ∧ (L 6 = true → y13 = .pointer (some ⟨p1_6, 0, none⟩) ∧ W0.heap.size ≤ p1_6 ∧ AtA wx p1_6 (bv (sel (L 8) B1_2 zeroM)) 30) ∧ (L 7 = true → y14 = .pointer (some ⟨p1_7, 0, none⟩) ∧ W0.heap.size ≤ p1_7 ∧ AtA wx p1_7 (bv (sel (L 9) B1_5 zeroM)) 30) ∧ (L 8 = true → L 2 = true ∧ L 6 = true) ∧ (L 9 = true → L 5 = true ∧ L 7 = true) ∧ (L 6 = true → L 7 = true → p1_6 ≠ p1_7)) (by kernel_rfl) ?h0 ?step ?fin
    case h0 => exact ⟨undef, undef, undef, undef, undef, undef, undef, undef, zeroM, zeroM, 0, 0, rfl, Gr.drew (Gr.refl _), (fun h => by cases h), (fun h => by cases h), (fun h => by cases h), (fun h => by cases h), (fun h => by cases h), (fun h => by cases h), (fun h => by cases h), (fun h => by cases h), (fun h => by cases h), (fun h => by cases h), (fun h => by cases h)⟩
    case step =>
      refine allOps_cons 0 ?_ ?_
      · refine keeps_free rfl ?_
        rintro L ac wx hL hd ⟨y23, y24, y25, y26, y27, y28, y13, y14, B1_2, B1_5, p1_6, p1_7, rfl, hG, f0, f1, f2, f3, f4, f5, f6, f7, f8, f9, g6_7⟩
        refine wp_loadA rfl rfl ((HA).gr hG) ?_
        exact ⟨.agg (av v), y24, y25, y26, y27, y28, y13, y14, B1_2, B1_5, p1_6, p1_7, rfl, hG, fun _ => rfl, f1, f2, f3, f4, f5, f6, f7, f8, f9, g6_7⟩
      refine allOps_cons 1 ?_ ?_
      · refine keeps_free rfl ?_
        rintro L ac wx hL hd ⟨y23, y24, y25, y26, y27, y28, y13, y14, B1_2, B1_5, p1_6, p1_7, rfl, hG, f0, f1, f2, f3, f4, f5, f6, f7, f8, f9, g6_7⟩
        refine wp_move rfl rfl ?_
        exact ⟨y23, .int .u64 (iv x), y25, y26, y27, y28, y13, y14, B1_2, B1_5, p1_6, p1_7, rfl, hG, f0, fun _ => rfl, f2, f3, f4, f5, f6, f7, f8, f9, g6_7⟩
      refine allOps_cons 2 ?_ ?_
      · refine keeps_free rfl ?_
        rintro L ac wx hL hd ⟨y23, y24, y25, y26, y27, y28, y13, y14, B1_2, B1_5, p1_6, p1_7, rfl, hG, f0, f1, f2, f3, f4, f5, f6, f7, f8, f9, g6_7⟩
        obtain ⟨e0, e1, -⟩ := hd
        have h0 := f0 (e0 rfl); subst h0
        have h1 := f1 (e1 rfl); subst h1
        have l8 : L 8 = false := by
          cases h : L 8 with
          | false => rfl
          | true => have := (f8 h).1; rw [hL] at this; cases this
        refine wp_call2 rfl rfl rfl (by go_simp) ?_
        refine (k_of v hv x _).mono ?_
        rintro e w1 ⟨A, gA, kA, rfl, hg⟩
        refine ⟨_, rfl, ?_⟩
        exact ⟨_, _, _, y26, y27, y28, y13, y14, A, B1_5, p1_6, p1_7, rfl, hG.trans hg, fun _ => rfl, fun _ => rfl, fun _ => ⟨gA, kA, rfl⟩, f3, f4, f5, fun h => let ⟨z1, z2, z3⟩ := f6 h; ⟨z1, z2, by rw [l8] at z3; rw [show upd L 2 8 = false from l8]; exact z3.gr hg⟩, fun h => let ⟨z1, z2, z3⟩ := f7 h; ⟨z1, z2, z3.gr hg⟩, (fun h => absurd (show L 8 = true from h) (by rw [l8]; decide)), f9, g6_7⟩
      refine allOps_cons 3 ?_ ?_
      · refine keeps_free rfl ?_
        rintro L ac wx hL hd ⟨y23, y24, y25, y26, y27, y28, y13, y14, B1_2, B1_5, p1_6, p1_7, rfl, hG, f0, f1, f2, f3, f4, f5, f6, f7, f8, f9, g6_7⟩
        refine wp_loadA rfl rfl ((HB).gr hG) ?_
        exact ⟨y23, y24, y25, .agg (av u), y27, y28, y13, y14, B1_2, B1_5, p1_6, p1_7, rfl, hG, f0, f1, f2, fun _ => rfl, f4, f5, f6, f7, f8, f9, g6_7⟩
      refine allOps_cons 4 ?_ ?_
      · refine keeps_free rfl ?_
        rintro L ac wx hL hd ⟨y23, y24, y25, y26, y27, y28, y13, y14, B1_2, B1_5, p1_6, p1_7, rfl, hG, f0, f1, f2, f3, f4, f5, f6, f7, f8, f9, g6_7⟩
        refine wp_move rfl rfl ?_
        exact ⟨y23, y24, y25, y26, .int .u64 (iv y), y28, y13, y14, B1_2, B1_5, p1_6, p1_7, rfl, hG, f0, f1, f2, f3, fun _ => rfl, f5, f6, f7, f8, f9, g6_7⟩
      refine allOps_cons 5 ?_ ?_
      · refine keeps_free rfl ?_
        rintro L ac wx hL hd ⟨y23, y24, y25, y26, y27, y28, y13, y14, B1_2, B1_5, p1_6, p1_7, rfl, hG, f0, f1, f2, f3, f4, f5, f6, f7, f8, f9, g6_7⟩
        obtain ⟨e0, e1, e2, -⟩ := hd
        have h3 := f3 (e0 rfl); subst h3
        have h4 := f4 (e1 rfl); subst h4
        have l9 : L 9 = false := by
          cases h : L 9 with
          | false => rfl
          | true => have := (f9 h).1; rw [hL] at this; cases this
        refine wp_call2 rfl rfl rfl (by go_simp) ?_
        refine (k_of u hu y _).mono ?_
        rintro e w1 ⟨A, gA, kA, rfl, hg⟩
        refine ⟨_, rfl, ?_⟩
        exact ⟨y23, y24, y25, _, _, _, y13, y14, B1_2, A, p1_6, p1_7, rfl, hG.trans hg, f0, f1, f2, fun _ => rfl, fun _ => rfl, fun _ => ⟨gA, kA, rfl⟩, fun h => let ⟨z1, z2, z3⟩ := f6 h; ⟨z1, z2, z3.gr hg⟩, fun h => let ⟨z1, z2, z3⟩ := f7 h; ⟨z1, z2, by rw [l9] at z3; rw [show upd L 5 9 = false from l9]; exact z3.gr hg⟩, f8, (fun h => absurd (show L 9 = true from h) (by rw [l9]; decide)), g6_7⟩
      refine allOps_cons 6 ?_ ?_
      · refine keeps_free rfl ?_
        rintro L ac wx hL hd ⟨y23, y24, y25, y26, y27, y28, y13, y14, B1_2, B1_5, p1_6, p1_7, rfl, hG, f0, f1, f2, f3, f4, f5, f6, f7, f8, f9, g6_7⟩
        have l8 : L 8 = false := by
          cases h : L 8 with
          | false => rfl
          | true => have := (f8 h).2; rw [hL] at this; cases this
        refine wp_allocB rfl ?_
        intro w1 hn hg
        exact ⟨y23, y24, y25, y26, y27, y28, _, y14, B1_2, B1_5, wx.heap.size, p1_7, rfl, hG.trans hg, f0, f1, f2, f3, f4, f5, fun _ => ⟨rfl, hG.below.size, by rw [show upd L 6 8 = false from l8]; exact hn⟩, fun h => let ⟨z1, z2, z3⟩ := f7 h; ⟨z1, z2, z3.gr hg⟩, (fun h => absurd (show L 8 = true from h) (by rw [l8]; decide)), f9, fun _ h => by have z := (f7 h).2.2.lt; omega⟩
      refine allOps_cons 7 ?_ ?_
      · refine keeps_free rfl ?_
        rintro L ac wx hL hd ⟨y23, y24, y25, y26, y27, y28, y13, y14, B1_2, B1_5, p1_6, p1_7, rfl, hG, f0, f1, f2, f3, f4, f5, f6, f7, f8, f9, g6_7⟩
        have l9 : L 9 = false := by
          cases h : L 9 with
          | false => rfl
          | true => have := (f9 h).2; rw [hL] at this; cases this
        refine wp_allocB rfl ?_
        intro w1 hn hg
        exact ⟨y23, y24, y25, y26, y27, y28, y13, _, B1_2, B1_5, p1_6, wx.heap.size, rfl, hG.trans hg, f0, f1, f2, f3, f4, f5, fun h => let ⟨z1, z2, z3⟩ := f6 h; ⟨z1, z2, z3.gr hg⟩, fun _ => ⟨rfl, hG.below.size, by rw [show upd L 7 9 = false from l9]; exact hn⟩, f8, (fun h => absurd (show L 9 = true from h) (by rw [l9]; decide)), fun h _ => by have z := (f6 h).2.2.lt; omega⟩
      refine allOps_cons 8 ?_ ?_
      · refine keeps_free rfl ?_
        rintro L ac wx hL hd ⟨y23, y24, y25, y26, y27, y28, y13, y14, B1_2, B1_5, p1_6, p1_7, rfl, hG, f0, f1, f2, f3, f4, f5, f6, f7, f8, f9, g6_7⟩
        obtain ⟨e0, e1, e2, e3, e4, e5, e6, e7, e8, e9, e10, -⟩ := hd
        have lp : L 6 = true := e0 rfl
        have lx : L 2 = true := e1 rfl
        obtain ⟨h1, h2, h3⟩ := f6 lp
        obtain ⟨y0, y1, h4⟩ := f2 lx
        rw [hL] at h3
        subst h1; subst h4
        refine wp_storeB rfl rfl rfl h3 ?_
        intro w1 hn hgx
        exact ⟨y23, y24, _, y26, y27, y28, _, y14, B1_2, B1_5, p1_6, p1_7, rfl, hgx.gr _ hG h2, f0, f1, fun _ => ⟨y0, y1, rfl⟩, f3, f4, f5, fun _ => ⟨rfl, h2, hn⟩, fun h => let ⟨z1, z2, z3⟩ := f7 h; ⟨z1, z2, z3.grx hgx (Ne.symm (g6_7 lp h))⟩, fun _ => ⟨lx, lp⟩, f9, g6_7⟩
      refine allOps_cons 9 ?_ ?_
      · refine keeps_free rfl ?_
        rintro L ac wx hL hd ⟨y23, y24, y25, y26, y27, y28, y13, y14, B1_2, B1_5, p1_6, p1_7, rfl, hG, f0, f1, f2, f3, f4, f5, f6, f7, f8, f9, g6_7⟩
        obtain ⟨e0, e1, e2, e3, e4, e5, e6, e7, e8, e9, e10, e11, -⟩ := hd
        have lp : L 7 = true := e0 rfl
        have lx : L 5 = true := e1 rfl
        obtain ⟨h1, h2, h3⟩ := f7 lp
        obtain ⟨y0, y1, h4⟩ := f5 lx
        rw [hL] at h3
        subst h1; subst h4
        refine wp_storeB rfl rfl rfl h3 ?_
        intro w1 hn hgx
        exact ⟨y23, y24, y25, y26, y27, _, y13, _, B1_2, B1_5, p1_6, p1_7, rfl, hgx.gr _ hG h2, f0, f1, f2, f3, f4, fun _ => ⟨y0, y1, rfl⟩, fun h => let ⟨z1, z2, z3⟩ := f6 h; ⟨z1, z2, z3.grx hgx (g6_7 h lp)⟩, fun _ => ⟨rfl, h2, hn⟩, f8, fun _ => ⟨lx, lp⟩, g6_7⟩
      exact allOps_nil 10
    case fin =>
      rintro L ac wx hall ⟨y23, y24, y25, y26, y27, y28, y13, y14, B1_2, B1_5, p1_6, p1_7, rfl, hG, f0, f1, f2, f3, f4, f5, f6, f7, f8, f9, g6_7⟩
      have l0 : L 0 = true := hall 0 (by decide)
      have l1 : L 1 = true := hall 1 (by decide)
      have l2 : L 2 = true := hall 2 (by decide)
      have l3 : L 3 = true := hall 3 (by decide)
      have l4 : L 4 = true := hall 4 (by decide)
      have l5 : L 5 = true := hall 5 (by decide)
      have l6 : L 6 = true := hall 6 (by decide)
      have l7 : L 7 = true := hall 7 (by decide)
      have l8 : L 8 = true := hall 8 (by decide)
      have l9 : L 9 = true := hall 9 (by decide)
      obtain ⟨h6, k6, z6⟩ := f6 l6; rw [l8] at z6
      obtain ⟨h7, k7, z7⟩ := f7 l7; rw [l9] at z7
      obtain ⟨y2_0, y2_1, -⟩ := f2 l2
      obtain ⟨y5_0, y5_1, -⟩ := f5 l5
      refine hK2 _ _ (hJ _ _ ?_)
      (repeat apply Exists.intro)
      refine ⟨?rel1, rfl⟩
      exact ⟨p1_6, p1_7, B1_2, B1_5, h6, h7, y2_0, y2_1, y5_0, y5_1, z6, z7, g6_7 l6 l7, k6, k7, hG⟩
  case rest =>
    obtain ⟨p1_6, p1_7, B1_2, B1_5, rfl, rfl, B1_2_0, B1_2_1, B1_5_0, B1_5_1, zp1_6, zp1_7, np1_6_p1_7, zp1_6ge, zp1_7ge, hc1⟩ := hcut
    have hXA_1 := (HA).gr hc1
    have hXB_1 := (HB).gr hc1
    have hF_1 := (HF).trans hc1
    have frp1_6 := Nat.le_trans HF.below.size zp1_6ge
    have frp1_7 := Nat.le_trans HF.below.size zp1_7ge
    obtain ⟨z, hz, C, gC, kC, -, cC⟩ := does_all B1_2_0 B1_5_0 B1_2_1 B1_5_1 k hk.1 hk.2 wd
    have sa := sync_keep B1_2_0 B1_2_1
    have sb := sync_keep B1_5_0 B1_5_1
    obtain ⟨z2, hz2, D, gD, kD, -, cD⟩ := does_all sa.2.2 sb.2.2 sa.1 sb.1 k hk.1 hk.2 wd
    have ez : z2 = z := by
      apply BitVec.eq_of_toNat_eq
      rw [← hz] at hz2
      unfold Tn.iv at hz2
      omega
    subst ez
    have cz : ∀ w, Calls Tryz.prog 29 #[.int .u8 k, .bool wd, .int .u64 (iv x), .int .u64 (iv y)] w fun e w' => e = .returned (.tuple #[.int .u64 (iv z2), .int .i64 0]) ∧ Gr w w' := fun w => (Wd.does_any wd k (iv x) (iv y) hk.1 (iv_range x) (iv_range y) w).mono (fun e w' h => ⟨by rw [h.1, hz2, show Wd.errD k = 0 from if_pos hk.2], ⟨h.2.below, h.2.grown⟩⟩)
    obtain ⟨L8, gL8, kL8, -, cL8⟩ := k_low8 sa.2.2 sa.1
    obtain ⟨L16, gL16, kL16, -, cL16⟩ := k_low16 sa.2.2 sa.1
    obtain ⟨L32, gL32, kL32, -, cL32⟩ := k_low32 sa.2.2 sa.1
    clear hz hz2 hk
    go_upto_region 3 with fail
    refine wp_region_sqn (C := Gr wc) 8 (by kernel_rfl) (Gr.refl _) ?_
    refine q_do (by rfl) ?_
    refine q_move (v := .int .u8 k) rfl rfl ?_
    refine q_do (by rfl) ?_
    refine q_move (v := .bool wd) rfl rfl ?_
    refine q_do (by rfl) ?_
    refine q_loadB rfl rfl (fun w h => (zp1_6).gr h) ?_
    simp only [Act.put, List.setIfInBounds_toArray, List.set_cons_zero, List.set_cons_succ]
    refine q_do (by rfl) ?_
    refine q_loadB rfl rfl (fun w h => (zp1_7).gr h) ?_
    refine q_do (by rfl) ?_
    refine q_call4 rfl rfl rfl rfl rfl (fun w => by go_simp) (grc (cC) (rfl)) ?_
    refine q_do (by rfl) ?_
    refine q_move (v := .tuple #[.agg (bv C), .int .i64 0]) rfl rfl ?_
    simp only [Act.put, List.setIfInBounds_toArray, List.set_cons_zero, List.set_cons_succ]
    refine q_do (by rfl) ?_
    refine q_extract (v := .agg (bv C)) rfl rfl rfl ?_
    refine q_do (by rfl) ?_
    refine q_extract (v := .int .i64 0) rfl rfl rfl ?_
    simp only [Act.put, List.setIfInBounds_toArray, List.set_cons_zero, List.set_cons_succ]
    intro wq2 hq2
    have hp1_6_2 := (zp1_6).gr hq2
    have hp1_7_2 := (zp1_7).gr hq2
    have hF_2 := (hF_1).trans hq2
    refine seq_do ?_
    refine wp_allocB rfl ?_
    intro ws3 hn3 hg3
    have hge3 := (hF_2).below.size
    have hnep1_6_PN3 : p1_6 ≠ wq2.heap.size := Nat.ne_of_lt (hp1_6_2).lt
    have hnep1_7_PN3 : p1_7 ≠ wq2.heap.size := Nat.ne_of_lt (hp1_7_2).lt
    have hp1_6_3 := (hp1_6_2).gr hg3
    have hp1_7_3 := (hp1_7_2).gr hg3
    have hF_3 := (hF_2).trans hg3
    revert hn3 hge3 hnep1_6_PN3 hnep1_7_PN3
    generalize wq2.heap.size = PN3
    intro hn3 hge3 hnep1_6_PN3 hnep1_7_PN3
    refine seq_do ?_
    refine wp_storeB rfl rfl rfl (hn3) ?_
    intro ws4 hs4 gx4
    have hp1_6_4 := (hp1_6_3).grx gx4 hnep1_6_PN3
    have hp1_7_4 := (hp1_7_3).grx gx4 hnep1_7_PN3
    have hF_4 := gx4.gr _ (hF_3) hge3
    refine seq_do ?_
    refine wp_assign (v := .int .i64 0) rfl rfl ?_
    simp only [Act.put, List.setIfInBounds_toArray, List.set_cons_zero, List.set_cons_succ]
    refine seq_end ?_
    go_upto_region 4 with fail
    refine wp_region_seqq (C := Gr ws4) (Gr.refl _) ?_
    refine q_do (by rfl) ?_
    refine q_move (v := .int .u8 k) rfl rfl ?_
    refine q_do (by rfl) ?_
    refine q_move (v := .bool wd) rfl rfl ?_
    refine q_do (by rfl) ?_
    refine q_move (v := .int .u64 (iv x)) rfl rfl ?_
    simp only [Act.put, List.setIfInBounds_toArray, List.set_cons_zero, List.set_cons_succ]
    refine q_do (by rfl) ?_
    refine q_move (v := .int .u64 (iv y)) rfl rfl ?_
    refine q_do (by rfl) ?_
    refine q_call4 rfl rfl rfl rfl rfl (fun w => by go_simp) (grc (cz) (rfl)) ?_
    refine q_do (by rfl) ?_
    refine q_move (v := .tuple #[.int .u64 (iv z2), .int .i64 0]) rfl rfl ?_
    simp only [Act.put, List.setIfInBounds_toArray, List.set_cons_zero, List.set_cons_succ]
    refine q_do (by rfl) ?_
    refine q_extract (v := .int .u64 (iv z2)) rfl rfl rfl ?_
    refine q_do (by rfl) ?_
    refine q_extract (v := .int .i64 0) rfl rfl rfl ?_
    refine q_do (by rfl) ?_
    refine q_assign (v := .int .u64 (iv z2)) rfl rfl ?_
    simp only [Act.put, List.setIfInBounds_toArray, List.set_cons_zero, List.set_cons_succ]
    refine q_do (by rfl) ?_
    refine q_assign (v := .int .i64 0) rfl rfl ?_
    simp only [Act.put, List.setIfInBounds_toArray, List.set_cons_zero, List.set_cons_succ]
    intro wq5 hq5
    have hp1_6_5 := (hp1_6_4).gr hq5
    have hp1_7_5 := (hp1_7_4).gr hq5
    have hPN3_5 := (hs4).gr hq5
    have hF_5 := (hF_4).trans hq5
    go_upto_region 5 with fail
    refine wp_region_seqq (C := Gr wq5) (Gr.refl _) ?_
    refine q_do (by rfl) ?_
    refine q_move (v := .int .i64 0) rfl rfl ?_
    refine q_do (by rfl) ?_
    refine q_neq_er (r := false) rfl rfl rfl (rfl) ?_
    refine q_do (by rfl) ?_
    refine q_move (v := .bool false) rfl rfl ?_
    simp only [Act.put, List.setIfInBounds_toArray, List.set_cons_zero, List.set_cons_succ]
    refine q_do (by rfl) ?_
    refine q_move (v := .int .i64 0) rfl rfl ?_
    refine q_do (by rfl) ?_
    refine q_neq_er (r := false) rfl rfl rfl (rfl) ?_
    refine q_do (by rfl) ?_
    refine q_pickF (v := .bool false) rfl rfl rfl ?_
    simp only [Act.put, List.setIfInBounds_toArray, List.set_cons_zero, List.set_cons_succ]
    refine q_do (by rfl) ?_
    refine q_move (v := .bool false) rfl rfl ?_
    refine q_do (by rfl) ?_
    refine q_loadB rfl rfl (fun w h => (hPN3_5).gr h) ?_
    refine q_do (by rfl) ?_
    refine q_move (v := .int .u64 (iv z2)) rfl rfl ?_
    simp only [Act.put, List.setIfInBounds_toArray, List.set_cons_zero, List.set_cons_succ]
    refine q_do (by rfl) ?_
    refine q_call2 rfl rfl rfl (fun w => by go_simp) (grc (has_ix kC rfl) (rfl)) ?_
    refine q_do (by rfl) ?_
    refine q_not (b := true) (c := false) rfl rfl rfl ?_
    refine q_do (by rfl) ?_
    refine q_pickF (v := .bool false) rfl rfl rfl ?_
    simp only [Act.put, List.setIfInBounds_toArray, List.set_cons_zero, List.set_cons_succ]
    intro wq6 hq6
    have hp1_6_6 := (hp1_6_5).gr hq6
    have hp1_7_6 := (hp1_7_5).gr hq6
    have hPN3_6 := (hPN3_5).gr hq6
    have hF_6 := (hF_5).trans hq6
    go_upto_region 7 with fail
    go_cut [19, 20] (fun c19 c20 wx => ∃ (p7_4 : Nat) (p7_5 : Nat) , c19 = .pointer (some ⟨p7_4, 0, none⟩) ∧ c20 = .pointer (some ⟨p7_5, 0, none⟩) ∧ AtA wx p7_4 (bv (syncM B1_2)) 30 ∧ AtA wx p7_5 (bv (syncM B1_5)) 30 ∧ p7_4 ≠ p7_5 ∧ wq6.heap.size ≤ p7_4 ∧ wq6.heap.size ≤ p7_5 ∧ Gr wq6 wx)
    case first =>
      rename_i J K2 hJ hK2
      refine wp_region_inv (by kernel_rfl) (fun L ac wx => ∃ (y59 y60 y61 y62 y19 y20 : Value) (p7_4 : Nat) (p7_5 : Nat), ac = ⟨(.int .u64 (iv x) :: .int .u64 (iv y) :: .agg (av v) :: .agg (av u) :: .int .u8 k :: .bool wd :: undef :: undef :: .pointer (some ⟨XA, 0, none⟩) :: .pointer (some ⟨XB, 0, none⟩) :: undef :: undef :: .bool false :: .pointer (some ⟨p1_6, 0, none⟩) :: .pointer (some ⟨p1_7, 0, none⟩) :: .pointer (some ⟨PN3, 0, none⟩) :: .int .i64 0 :: .int .u64 (iv z2) :: .int .i64 0 :: y19 :: y20 :: undef :: undef :: u23 :: u24 :: u25 :: u26 :: u27 :: u28 :: .int .u8 k0 :: .int .u8 k :: .tuple #[.agg (bv C), .int .i64 0] :: .int .u8 k :: .bool wd :: .agg (bv B1_2) :: .agg (bv B1_5) :: .tuple #[.agg (bv C), .int .i64 0] :: .agg (bv C) :: .int .i64 0 :: .tuple #[.int .u64 (iv z2), .int .i64 0] :: .int .u8 k :: .bool wd :: .int .u64 (iv x) :: .int .u64 (iv y) :: .tuple #[.int .u64 (iv z2), .int .i64 0] :: .int .u64 (iv z2) :: .int .i64 0 :: .int .i64 0 :: .bool false :: .bool false :: .int .i64 0 :: .bool false :: .bool false :: .bool false :: .agg (bv C) :: .int .u64 (iv z2) :: .bool true :: .bool false :: .bool false :: y59 :: y60 :: y61 :: y62 :: u63 :: u64 :: u65 :: u66 :: u67 :: u68 :: u69 :: u70 :: u71 :: u72 :: u73 :: u74 :: u75 :: u76 :: u77 :: u78 :: u79 :: u80 :: u81 :: u82 :: u83 :: u84 :: u85 :: u86 :: u87 :: u88 :: u89 :: u90 :: u91 :: u92 :: u93 :: u94 :: u95 :: u96 :: u97 :: u98 :: u99 :: u100 :: u101 :: u102 :: u103 :: u104 :: [] : List Value).toArray, []⟩ ∧ Gr wq6 wx ∧ (L 0 = true → y59 = .agg (bv B1_2)) ∧ (L 1 = true → y60 = .agg (bv (syncM B1_2))) ∧ (L 2 = true → y61 = .agg (bv B1_5)) ∧ (L 3 = true → y62 = .agg (bv (syncM B1_5))) ∧ (L 4 = true → y19 = .pointer (some ⟨p7_4, 0, none⟩) ∧ wq6.heap.size ≤ p7_4 ∧ AtA wx p7_4 (bv (sel (L 6) (syncM B1_2) zeroM)) 30) ∧ (L 5 = true → y20 = .pointer (some ⟨p7_5, 0, none⟩) ∧ wq6.heap.size ≤ p7_5 ∧ AtA wx p7_5 (bv (sel (L 7) (syncM B1_5) zeroM)) 30) ∧ (L 6 = true → L 1 = true ∧ L 4 = true) ∧ (L 7 = true → L 3 = true ∧ L 5 = true) ∧ (L 4 = true → L 5 = true → p7_4 ≠ p7_5)) (by kernel_rfl) ?h0 ?step ?fin
      case h0 => exact ⟨u59, u60, u61, u62, undef, undef, 0, 0, rfl, Gr.drew (Gr.refl _), (fun h => by cases h), (fun h => by cases h), (fun h => by cases h), (fun h => by cases h), (fun h => by cases h), (fun h => by cases h), (fun h => by cases h), (fun h => by cases h), (fun h => by cases h)⟩
      case step =>
        refine allOps_cons 0 ?_ ?_
        · refine keeps_free rfl ?_
          rintro L ac wx hL hd ⟨y59, y60, y61, y62, y19, y20, p7_4, p7_5, rfl, hG, f0, f1, f2, f3, f4, f5, f6, f7, g4_5⟩
          refine wp_loadB rfl rfl ((hp1_6_6).gr hG) ?_
          exact ⟨.agg (bv B1_2), y60, y61, y62, y19, y20, p7_4, p7_5, rfl, hG, fun _ => rfl, f1, f2, f3, f4, f5, f6, f7, g4_5⟩
        refine allOps_cons 1 ?_ ?_
        · refine keeps_free rfl ?_
          rintro L ac wx hL hd ⟨y59, y60, y61, y62, y19, y20, p7_4, p7_5, rfl, hG, f0, f1, f2, f3, f4, f5, f6, f7, g4_5⟩
          obtain ⟨e0, -⟩ := hd
          have h0 := f0 (e0 rfl); subst h0
          have l6 : L 6 = false := by
            cases h : L 6 with
            | false => rfl
            | true => have := (f6 h).1; rw [hL] at this; cases this
          refine wp_call1 rfl rfl (by go_simp) ?_
          refine (k_sync B1_2 _ B1_2_0).mono ?_
          rintro e w1 ⟨rfl, hg⟩
          refine ⟨_, rfl, ?_⟩
          exact ⟨_, _, y61, y62, y19, y20, p7_4, p7_5, rfl, hG.trans hg, fun _ => rfl, fun _ => rfl, f2, f3, fun h => let ⟨z1, z2, z3⟩ := f4 h; ⟨z1, z2, by rw [l6] at z3; rw [show upd L 1 6 = false from l6]; exact z3.gr hg⟩, fun h => let ⟨z1, z2, z3⟩ := f5 h; ⟨z1, z2, z3.gr hg⟩, (fun h => absurd (show L 6 = true from h) (by rw [l6]; decide)), f7, g4_5⟩
        refine allOps_cons 2 ?_ ?_
        · refine keeps_free rfl ?_
          rintro L ac wx hL hd ⟨y59, y60, y61, y62, y19, y20, p7_4, p7_5, rfl, hG, f0, f1, f2, f3, f4, f5, f6, f7, g4_5⟩
          refine wp_loadB rfl rfl ((hp1_7_6).gr hG) ?_
          exact ⟨y59, y60, .agg (bv B1_5), y62, y19, y20, p7_4, p7_5, rfl, hG, f0, f1, fun _ => rfl, f3, f4, f5, f6, f7, g4_5⟩
        refine allOps_cons 3 ?_ ?_
        · refine keeps_free rfl ?_
          rintro L ac wx hL hd ⟨y59, y60, y61, y62, y19, y20, p7_4, p7_5, rfl, hG, f0, f1, f2, f3, f4, f5, f6, f7, g4_5⟩
          obtain ⟨e0, e1, -⟩ := hd
          have h2 := f2 (e0 rfl); subst h2
          have l7 : L 7 = false := by
            cases h : L 7 with
            | false => rfl
            | true => have := (f7 h).1; rw [hL] at this; cases this
          refine wp_call1 rfl rfl (by go_simp) ?_
          refine (k_sync B1_5 _ B1_5_0).mono ?_
          rintro e w1 ⟨rfl, hg⟩
          refine ⟨_, rfl, ?_⟩
          exact ⟨y59, y60, _, _, y19, y20, p7_4, p7_5, rfl, hG.trans hg, f0, f1, fun _ => rfl, fun _ => rfl, fun h => let ⟨z1, z2, z3⟩ := f4 h; ⟨z1, z2, z3.gr hg⟩, fun h => let ⟨z1, z2, z3⟩ := f5 h; ⟨z1, z2, by rw [l7] at z3; rw [show upd L 3 7 = false from l7]; exact z3.gr hg⟩, f6, (fun h => absurd (show L 7 = true from h) (by rw [l7]; decide)), g4_5⟩
        refine allOps_cons 4 ?_ ?_
        · refine keeps_free rfl ?_
          rintro L ac wx hL hd ⟨y59, y60, y61, y62, y19, y20, p7_4, p7_5, rfl, hG, f0, f1, f2, f3, f4, f5, f6, f7, g4_5⟩
          have l6 : L 6 = false := by
            cases h : L 6 with
            | false => rfl
            | true => have := (f6 h).2; rw [hL] at this; cases this
          refine wp_allocB rfl ?_
          intro w1 hn hg
          exact ⟨y59, y60, y61, y62, _, y20, wx.heap.size, p7_5, rfl, hG.trans hg, f0, f1, f2, f3, fun _ => ⟨rfl, hG.below.size, by rw [show upd L 4 6 = false from l6]; exact hn⟩, fun h => let ⟨z1, z2, z3⟩ := f5 h; ⟨z1, z2, z3.gr hg⟩, (fun h => absurd (show L 6 = true from h) (by rw [l6]; decide)), f7, fun _ h => by have z := (f5 h).2.2.lt; omega⟩
        refine allOps_cons 5 ?_ ?_
        · refine keeps_free rfl ?_
          rintro L ac wx hL hd ⟨y59, y60, y61, y62, y19, y20, p7_4, p7_5, rfl, hG, f0, f1, f2, f3, f4, f5, f6, f7, g4_5⟩
          have l7 : L 7 = false := by
            cases h : L 7 with
            | false => rfl
            | true => have := (f7 h).2; rw [hL] at this; cases this
          refine wp_allocB rfl ?_
          intro w1 hn hg
          exact ⟨y59, y60, y61, y62, y19, _, p7_4, wx.heap.size, rfl, hG.trans hg, f0, f1, f2, f3, fun h => let ⟨z1, z2, z3⟩ := f4 h; ⟨z1, z2, z3.gr hg⟩, fun _ => ⟨rfl, hG.below.size, by rw [show upd L 5 7 = false from l7]; exact hn⟩, f6, (fun h => absurd (show L 7 = true from h) (by rw [l7]; decide)), fun h _ => by have z := (f4 h).2.2.lt; omega⟩
        refine allOps_cons 6 ?_ ?_
        · refine keeps_free rfl ?_
          rintro L ac wx hL hd ⟨y59, y60, y61, y62, y19, y20, p7_4, p7_5, rfl, hG, f0, f1, f2, f3, f4, f5, f6, f7, g4_5⟩
          obtain ⟨e0, e1, e2, e3, e4, e5, e6, e7, e8, -⟩ := hd
          have lp : L 4 = true := e0 rfl
          have lx : L 1 = true := e1 rfl
          obtain ⟨h1, h2, h3⟩ := f4 lp
          have h4 := f1 lx
          rw [hL] at h3
          subst h1; subst h4
          refine wp_storeB rfl rfl rfl h3 ?_
          intro w1 hn hgx
          exact ⟨y59, _, y61, y62, _, y20, p7_4, p7_5, rfl, hgx.gr _ hG h2, f0, fun _ => rfl, f2, f3, fun _ => ⟨rfl, h2, hn⟩, fun h => let ⟨z1, z2, z3⟩ := f5 h; ⟨z1, z2, z3.grx hgx (Ne.symm (g4_5 lp h))⟩, fun _ => ⟨lx, lp⟩, f7, g4_5⟩
        refine allOps_cons 7 ?_ ?_
        · refine keeps_free rfl ?_
          rintro L ac wx hL hd ⟨y59, y60, y61, y62, y19, y20, p7_4, p7_5, rfl, hG, f0, f1, f2, f3, f4, f5, f6, f7, g4_5⟩
          obtain ⟨e0, e1, e2, e3, e4, e5, e6, e7, e8, e9, -⟩ := hd
          have lp : L 5 = true := e0 rfl
          have lx : L 3 = true := e1 rfl
          obtain ⟨h1, h2, h3⟩ := f5 lp
          have h4 := f3 lx
          rw [hL] at h3
          subst h1; subst h4
          refine wp_storeB rfl rfl rfl h3 ?_
          intro w1 hn hgx
          exact ⟨y59, y60, y61, _, y19, _, p7_4, p7_5, rfl, hgx.gr _ hG h2, f0, f1, f2, fun _ => rfl, fun h => let ⟨z1, z2, z3⟩ := f4 h; ⟨z1, z2, z3.grx hgx (g4_5 h lp)⟩, fun _ => ⟨rfl, h2, hn⟩, f6, fun _ => ⟨lx, lp⟩, g4_5⟩
        exact allOps_nil 8
      case fin =>
        rintro L ac wx hall ⟨y59, y60, y61, y62, y19, y20, p7_4, p7_5, rfl, hG, f0, f1, f2, f3, f4, f5, f6, f7, g4_5⟩
        have l0 : L 0 = true := hall 0 (by decide)
        have l1 : L 1 = true := hall 1 (by decide)
        have l2 : L 2 = true := hall 2 (by decide)
        have l3 : L 3 = true := hall 3 (by decide)
        have l4 : L 4 = true := hall 4 (by decide)
        have l5 : L 5 = true := hall 5 (by decide)
        have l6 : L 6 = true := hall 6 (by decide)
        have l7 : L 7 = true := hall 7 (by decide)
        obtain ⟨h4, k4, z4⟩ := f4 l4; rw [l6] at z4
        obtain ⟨h5, k5, z5⟩ := f5 l5; rw [l7] at z5
        refine hK2 _ _ (hJ _ _ ?_)
        (repeat apply Exists.intro)
        refine ⟨?rel7, rfl⟩
        exact ⟨p7_4, p7_5, h4, h5, z4, z5, g4_5 l4 l5, k4, k5, hG⟩
    case rest =>
      obtain ⟨p7_4, p7_5, rfl, rfl, zp7_4, zp7_5, np7_4_p7_5, zp7_4ge, zp7_5ge, hc7⟩ := hcut
      have hp1_6_7 := (hp1_6_6).gr hc7
      have hp1_7_7 := (hp1_7_6).gr hc7
      have hPN3_7 := (hPN3_6).gr hc7
      have hF_7 := (hF_6).trans hc7
      go_upto_region 8 with fail
      refine wp_region_sqn (C := Gr wc) 8 (by kernel_rfl) (Gr.refl _) ?_
      refine q_do (by rfl) ?_
      refine q_move (v := .int .u8 k) rfl rfl ?_
      refine q_do (by rfl) ?_
      refine q_move (v := .bool wd) rfl rfl ?_
      refine q_do (by rfl) ?_
      refine q_loadB rfl rfl (fun w h => (zp7_4).gr h) ?_
      simp only [Act.put, List.setIfInBounds_toArray, List.set_cons_zero, List.set_cons_succ]
      refine q_do (by rfl) ?_
      refine q_loadB rfl rfl (fun w h => (zp7_5).gr h) ?_
      refine q_do (by rfl) ?_
      refine q_call4 rfl rfl rfl rfl rfl (fun w => by go_simp) (grc (cD) (rfl)) ?_
      refine q_do (by rfl) ?_
      refine q_move (v := .tuple #[.agg (bv D), .int .i64 0]) rfl rfl ?_
      simp only [Act.put, List.setIfInBounds_toArray, List.set_cons_zero, List.set_cons_succ]
      refine q_do (by rfl) ?_
      refine q_extract (v := .agg (bv D)) rfl rfl rfl ?_
      refine q_do (by rfl) ?_
      refine q_extract (v := .int .i64 0) rfl rfl rfl ?_
      simp only [Act.put, List.setIfInBounds_toArray, List.set_cons_zero, List.set_cons_succ]
      intro wq8 hq8
      have hp1_6_8 := (hp1_6_7).gr hq8
      have hp1_7_8 := (hp1_7_7).gr hq8
      have hPN3_8 := (hPN3_7).gr hq8
      have hp7_4_8 := (zp7_4).gr hq8
      have hp7_5_8 := (zp7_5).gr hq8
      have hF_8 := (hF_7).trans hq8
      refine seq_do ?_
      refine wp_allocB rfl ?_
      intro ws9 hn9 hg9
      have hge9 := (hF_8).below.size
      have hnep1_6_PN9 : p1_6 ≠ wq8.heap.size := Nat.ne_of_lt (hp1_6_8).lt
      have hnep1_7_PN9 : p1_7 ≠ wq8.heap.size := Nat.ne_of_lt (hp1_7_8).lt
      have hnePN3_PN9 : PN3 ≠ wq8.heap.size := Nat.ne_of_lt (hPN3_8).lt
      have hnep7_4_PN9 : p7_4 ≠ wq8.heap.size := Nat.ne_of_lt (hp7_4_8).lt
      have hnep7_5_PN9 : p7_5 ≠ wq8.heap.size := Nat.ne_of_lt (hp7_5_8).lt
      have hp1_6_9 := (hp1_6_8).gr hg9
      have hp1_7_9 := (hp1_7_8).gr hg9
      have hPN3_9 := (hPN3_8).gr hg9
      have hp7_4_9 := (hp7_4_8).gr hg9
      have hp7_5_9 := (hp7_5_8).gr hg9
      have hF_9 := (hF_8).trans hg9
      revert hn9 hge9 hnep1_6_PN9 hnep1_7_PN9 hnePN3_PN9 hnep7_4_PN9 hnep7_5_PN9
      generalize wq8.heap.size = PN9
      intro hn9 hge9 hnep1_6_PN9 hnep1_7_PN9 hnePN3_PN9 hnep7_4_PN9 hnep7_5_PN9
      refine seq_do ?_
      refine wp_storeB rfl rfl rfl (hn9) ?_
      intro ws10 hs10 gx10
      have hp1_6_10 := (hp1_6_9).grx gx10 hnep1_6_PN9
      have hp1_7_10 := (hp1_7_9).grx gx10 hnep1_7_PN9
      have hPN3_10 := (hPN3_9).grx gx10 hnePN3_PN9
      have hp7_4_10 := (hp7_4_9).grx gx10 hnep7_4_PN9
      have hp7_5_10 := (hp7_5_9).grx gx10 hnep7_5_PN9
      have hF_10 := gx10.gr _ (hF_9) hge9
      refine seq_do ?_
      refine wp_assign (v := .int .i64 0) rfl rfl ?_
      simp only [Act.put, List.setIfInBounds_toArray, List.set_cons_zero, List.set_cons_succ]
      refine seq_end ?_
      go_upto_region 9 with fail
      refine wp_region_seqq (C := Gr ws10) (Gr.refl _) ?_
      refine q_do (by rfl) ?_
      refine q_move (v := .int .i64 0) rfl rfl ?_
      refine q_do (by rfl) ?_
      refine q_neq_er (r := false) rfl rfl rfl (rfl) ?_
      refine q_do (by rfl) ?_
      refine q_move (v := .bool false) rfl rfl ?_
      simp only [Act.put, List.setIfInBounds_toArray, List.set_cons_zero, List.set_cons_succ]
      refine q_do (by rfl) ?_
      refine q_loadB rfl rfl (fun w h => (hs10).gr h) ?_
      refine q_do (by rfl) ?_
      refine q_move (v := .int .u64 (iv z2)) rfl rfl ?_
      refine q_do (by rfl) ?_
      refine q_call2 rfl rfl rfl (fun w => by go_simp) (grc (has_ix kD rfl) (rfl)) ?_
      simp only [Act.put, List.setIfInBounds_toArray, List.set_cons_zero, List.set_cons_succ]
      refine q_do (by rfl) ?_
      refine q_not (b := true) (c := false) rfl rfl rfl ?_
      refine q_do (by rfl) ?_
      refine q_pickF (v := .bool false) rfl rfl rfl ?_
      refine q_do (by rfl) ?_
      refine q_move (v := .bool false) rfl rfl ?_
      simp only [Act.put, List.setIfInBounds_toArray, List.set_cons_zero, List.set_cons_succ]
      refine q_do (by rfl) ?_
      refine q_loadB rfl rfl (fun w h => (hs10).gr h) ?_
      refine q_do (by rfl) ?_
      refine q_call1 rfl rfl (fun w => by go_simp) (grc (fun w => k_none D w) (by rw [nnB_of gD])) ?_
      refine q_do (by rfl) ?_
      refine q_pickF (v := .bool false) rfl rfl rfl ?_
      simp only [Act.put, List.setIfInBounds_toArray, List.set_cons_zero, List.set_cons_succ]
      intro wq11 hq11
      have hp1_6_11 := (hp1_6_10).gr hq11
      have hp1_7_11 := (hp1_7_10).gr hq11
      have hPN3_11 := (hPN3_10).gr hq11
      have hp7_4_11 := (hp7_4_10).gr hq11
      have hp7_5_11 := (hp7_5_10).gr hq11
      have hPN9_11 := (hs10).gr hq11
      have hF_11 := (hF_10).trans hq11
      go_upto_region 11 with fail
      refine wp_region_seqq (C := Gr wq11) (Gr.refl _) ?_
      refine q_do (by rfl) ?_
      refine q_loadB rfl rfl (fun w h => (hp7_4_11).gr h) ?_
      refine q_do (by rfl) ?_
      refine q_call2 rfl rfl rfl (fun w => by go_simp) (grc (cL8) (rfl)) ?_
      refine q_do (by rfl) ?_
      refine q_move (v := .int .u64 (iv x)) rfl rfl ?_
      simp only [Act.put, List.setIfInBounds_toArray, List.set_cons_zero, List.set_cons_succ]
      refine q_do (by rfl) ?_
      refine q_rem64 (r := (iv x % 256)) rfl rfl rfl (rem_k x (by decide) (by decide)) ?_
      refine q_do (by rfl) ?_
      refine q_call2 rfl rfl rfl (fun w => by go_simp) (grc (has_ix kL8 (m8 x)) (rfl)) ?_
      refine q_do (by rfl) ?_
      refine q_move (v := .bool true) rfl rfl ?_
      simp only [Act.put, List.setIfInBounds_toArray, List.set_cons_zero, List.set_cons_succ]
      refine q_do (by rfl) ?_
      refine q_loadB rfl rfl (fun w h => (hp7_4_11).gr h) ?_
      refine q_do (by rfl) ?_
      refine q_call2 rfl rfl rfl (fun w => by go_simp) (grc (cL16) (rfl)) ?_
      refine q_do (by rfl) ?_
      refine q_move (v := .int .u64 (iv x)) rfl rfl ?_
      simp only [Act.put, List.setIfInBounds_toArray, List.set_cons_zero, List.set_cons_succ]
      refine q_do (by rfl) ?_
      refine q_rem64 (r := (iv x % 65536)) rfl rfl rfl (rem_k x (by decide) (by decide)) ?_
      refine q_do (by rfl) ?_
      refine q_call2 rfl rfl rfl (fun w => by go_simp) (grc (has_ix kL16 (m16 x)) (rfl)) ?_
      refine q_do (by rfl) ?_
      refine q_pickT (v := .bool true) rfl rfl rfl ?_
      simp only [Act.put, List.setIfInBounds_toArray, List.set_cons_zero, List.set_cons_succ]
      refine q_do (by rfl) ?_
      refine q_move (v := .bool true) rfl rfl ?_
      refine q_do (by rfl) ?_
      refine q_loadB rfl rfl (fun w h => (hp7_4_11).gr h) ?_
      refine q_do (by rfl) ?_
      refine q_call2 rfl rfl rfl (fun w => by go_simp) (grc (cL32) (rfl)) ?_
      simp only [Act.put, List.setIfInBounds_toArray, List.set_cons_zero, List.set_cons_succ]
      refine q_do (by rfl) ?_
      refine q_move (v := .int .u64 (iv x)) rfl rfl ?_
      refine q_do (by rfl) ?_
      refine q_rem64 (r := (iv x % 4294967296)) rfl rfl rfl (rem_k x (by decide) (by decide)) ?_
      refine q_do (by rfl) ?_
      refine q_call2 rfl rfl rfl (fun w => by go_simp) (grc (has_ix kL32 (m32 x)) (rfl)) ?_
      simp only [Act.put, List.setIfInBounds_toArray, List.set_cons_zero, List.set_cons_succ]
      refine q_do (by rfl) ?_
      refine q_pickT (v := .bool true) rfl rfl rfl ?_
      refine q_do (by rfl) ?_
      refine q_move (v := .bool true) rfl rfl ?_
      refine q_do (by rfl) ?_
      refine q_call0 rfl (fun w => by go_simp) (grc (works_any) (rfl)) ?_
      simp only [Act.put, List.setIfInBounds_toArray, List.set_cons_zero, List.set_cons_succ]
      refine q_do (by rfl) ?_
      refine q_pickT (v := .bool true) rfl rfl rfl ?_
      refine q_do (by rfl) ?_
      refine q_assign (v := .bool true) rfl rfl ?_
      simp only [Act.put, List.setIfInBounds_toArray, List.set_cons_zero, List.set_cons_succ]
      intro wq12 hq12
      have hp1_6_12 := (hp1_6_11).gr hq12
      have hp1_7_12 := (hp1_7_11).gr hq12
      have hPN3_12 := (hPN3_11).gr hq12
      have hp7_4_12 := (hp7_4_11).gr hq12
      have hp7_5_12 := (hp7_5_11).gr hq12
      have hPN9_12 := (hPN9_11).gr hq12
      have hF_12 := (hF_11).trans hq12
      go_wp2
      go_ret
      exact ⟨rfl, hF_12⟩
end Go.Proofs.YtekenpgagfmgkaaGreat
end
