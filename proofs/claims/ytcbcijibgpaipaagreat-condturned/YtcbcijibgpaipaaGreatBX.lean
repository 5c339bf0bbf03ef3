/- Towards the statements of package bound (layer 5): a bound about a number, as it is told. -/
import Derived.Test.YtcbcijibgpaipaaGreatMK
import Derived.Test.YtcbcijibgpaipaaGreatBQ
import Derived.Deep.DeepCutAuto
namespace Go.Proofs.YtcbcijibgpaipaaGreat
open Go.ChangeShapes Go.WideShapes Go.ChangeAt Go.RowKit
open Tn (iv)
set_option linter.unusedVariables false
set_option maxRecDepth 20000

theorem set2 {w : World} {b : Nat} {y0 y1 y2 y3 y4 y5 y6 y7 y8 y9 : Value} {t : TypeId} (h : AtA w b #[y0, y1, y2, y3, y4, y5, y6, y7, y8, y9] t) (u v : Value) : AtA ((w.setCell ⟨b, 2, none⟩ u).setCell ⟨b, 3, none⟩ v) b #[y0, y1, u, v, y4, y5, y6, y7, y8, y9] t := by
  have k := (h.st 2 u).st 3 v
  simp only [zs, z0, z1] at k
  exact k
theorem set4 {w : World} {b : Nat} {y0 y1 y2 y3 y4 y5 y6 y7 y8 y9 : Value} {t : TypeId} (h : AtA w b #[y0, y1, y2, y3, y4, y5, y6, y7, y8, y9] t) (u v : Value) : AtA ((w.setCell ⟨b, 4, none⟩ u).setCell ⟨b, 5, none⟩ v) b #[y0, y1, y2, y3, u, v, y6, y7, y8, y9] t := by
  have k := (h.st 4 u).st 5 v
  simp only [zs, z0, z1] at k
  exact k
theorem set6 {w : World} {b : Nat} {y0 y1 y2 y3 y4 y5 y6 y7 y8 y9 : Value} {t : TypeId} (h : AtA w b #[y0, y1, y2, y3, y4, y5, y6, y7, y8, y9] t) (u v : Value) : AtA ((w.setCell ⟨b, 6, none⟩ u).setCell ⟨b, 7, none⟩ v) b #[y0, y1, y2, y3, y4, y5, u, v, y8, y9] t := by
  have k := (h.st 6 u).st 7 v
  simp only [zs, z0, z1] at k
  exact k
set_option maxHeartbeats 4000000 in
theorem of_any (mk x : BitVec 64) (dn up ls mo hf tp : Int) (h1 : InU dn) (h2 : InU up) (h3 : InU ls) (h4 : InU mo) (h5 : 0 ≤ hf ∧ hf ≤ 4294967295) (h6 : 0 ≤ tp ∧ tp ≤ 4294967295) (w : World) : Calls Tryz.prog 23 #[.agg #[.int .u64 (iv mk), .int .u64 dn, .int .u64 up, .int .u64 ls, .int .u64 mo, .int .u32 hf, .int .u32 tp], .int .u64 (iv x)] w fun e w' => ∃ b : Bd, Good b ∧ Has b x ∧ e = .returned (.agg #[.int .u64 (iv b.tv), .int .u64 (iv b.tm), .int .u64 b.ul, .int .u64 b.uh, .int .i64 b.sl, .int .i64 b.sh, .int .u64 b.wl, .int .u64 b.wh, .int .i64 b.vl, .int .i64 b.vh]) ∧ Gr w w' := by
  have q1 := Tn.iv_andNot x mk
  have hx := inU_iv x
  have HX : Hid (InU (iv x)) := hx
  have H1 : Hid (InU dn ∧ InU up ∧ InU ls ∧ InU mo ∧ (0 ≤ hf ∧ hf ≤ 4294967295) ∧ (0 ≤ tp ∧ tp ≤ 4294967295)) := ⟨h1, h2, h3, h4, h5, h6⟩
  clear hx h1 h2 h3 h4 h5 h6
  go_enter Tryz.func23, Tryz.ntmps23
  go_upto_region 2 with (first | (go_at_call 60; refine (rany _).mono ?_; rintro e w1 ⟨rfl, hg1⟩))
  have hsz : w.heap.size + 2 ≤ w1.heap.size := by
    have := hg1.below.size
    simp at this
    omega
  have HA : Hid (AtA (w1.alloc (.cells #[.int .u64 0, .int .u64 18446744073709551615, .int .u64 0, .int .u64 18446744073709551615, .int .i64 (-9223372036854775808), .int .i64 9223372036854775807, .int .u64 0, .int .u64 4294967295, .int .i64 (-2147483648), .int .i64 2147483647] 30)) w.heap.size #[.int .u64 (iv mk), .int .u64 dn, .int .u64 up, .int .u64 ls, .int .u64 mo, .int .u32 hf, .int .u32 tp] 43) := (((AtA.newb w rfl #[.int .u64 (iv mk), .int .u64 dn, .int .u64 up, .int .u64 ls, .int .u64 mo, .int .u32 hf, .int .u32 tp] 43).alloc _).gr hg1).alloc _
  have HR : Hid (AtA (w1.alloc (.cells #[.int .u64 0, .int .u64 18446744073709551615, .int .u64 0, .int .u64 18446744073709551615, .int .i64 (-9223372036854775808), .int .i64 9223372036854775807, .int .u64 0, .int .u64 4294967295, .int .i64 (-2147483648), .int .i64 2147483647] 30)) (w.heap.size + 1) #[.int .u64 0, .int .u64 0, .int .u64 0, .int .u64 0, .int .i64 0, .int .i64 0, .int .u64 0, .int .u64 0, .int .i64 0, .int .i64 0] 30) := ((AtA.newb _ (by simp) _ _).gr hg1).alloc _
  have HX1 : Hid (AtA (w1.alloc (.cells #[.int .u64 0, .int .u64 18446744073709551615, .int .u64 0, .int .u64 18446744073709551615, .int .i64 (-9223372036854775808), .int .i64 9223372036854775807, .int .u64 0, .int .u64 4294967295, .int .i64 (-2147483648), .int .i64 2147483647] 30)) w1.heap.size #[.int .u64 0, .int .u64 18446744073709551615, .int .u64 0, .int .u64 18446744073709551615, .int .i64 (-9223372036854775808), .int .i64 9223372036854775807, .int .u64 0, .int .u64 4294967295, .int .i64 (-2147483648), .int .i64 2147483647] 30) := AtA.newb _ rfl _ _
  have HG : Hid (Gr w (w1.alloc (.cells #[.int .u64 0, .int .u64 18446744073709551615, .int .u64 0, .int .u64 18446744073709551615, .int .i64 (-9223372036854775808), .int .i64 9223372036854775807, .int .u64 0, .int .u64 4294967295, .int .i64 (-2147483648), .int .i64 2147483647] 30))) := Gr.alloc (Gr.trans ⟨by go_grown, by go_grown⟩ hg1) _ _
  have hw0 : w.heap.size ≤ w.heap.size := Nat.le_refl _
  revert HA HR HX1 HG hsz hw0
  generalize (w1.alloc (.cells #[.int .u64 0, .int .u64 18446744073709551615, .int .u64 0, .int .u64 18446744073709551615, .int .i64 (-9223372036854775808), .int .i64 9223372036854775807, .int .u64 0, .int .u64 4294967295, .int .i64 (-2147483648), .int .i64 2147483647] 30)) = W1
  generalize w1.heap.size = PX
  generalize hPR : w.heap.size + 1 = PR
  generalize hPA : w.heap.size = PA
  intro hsz HA HR HX1 HG hw0
  have hPA2 : w.heap.size ≤ PA := by omega
  have hPX : PA + 2 ≤ PX := by omega
  have hPR2 : PA < PR := by omega
  have hPR3 : PR < PX := by omega
  clear hsz hw0 hg1 hPR hPA
  have a0 := HA.out.cell 0
  have f0 := HX1.out.f 0
  have f1 := HX1.out.f 1
  have d0 := HX1.out.cell 0
  have d1 := HX1.out.cell 1
  simp only [List.getElem?_toArray, List.getElem?_cons_zero, List.getElem?_cons_succ] at a0 d0 d1
  go_upto_region 3 with fail
  have HA2 : Hid (AtA ((W1.setCell ⟨PX, 0, none⟩ (.int .u64 (iv (x &&& ~~~mk)))).setCell ⟨PX, 1, none⟩ (.int .u64 (iv mk))) PA #[.int .u64 (iv mk), .int .u64 dn, .int .u64 up, .int .u64 ls, .int .u64 mo, .int .u32 hf, .int .u32 tp] 43) := (HA.out.other (by omega) _).other (by omega) _
  have HR2 : Hid (AtA ((W1.setCell ⟨PX, 0, none⟩ (.int .u64 (iv (x &&& ~~~mk)))).setCell ⟨PX, 1, none⟩ (.int .u64 (iv mk))) PR #[.int .u64 0, .int .u64 0, .int .u64 0, .int .u64 0, .int .i64 0, .int .i64 0, .int .u64 0, .int .u64 0, .int .i64 0, .int .i64 0] 30) := (HR.out.other (by omega) _).other (by omega) _
  have HX2 : Hid (AtA ((W1.setCell ⟨PX, 0, none⟩ (.int .u64 (iv (x &&& ~~~mk)))).setCell ⟨PX, 1, none⟩ (.int .u64 (iv mk))) PX #[.int .u64 (iv (x &&& ~~~mk)), .int .u64 (iv mk), .int .u64 0, .int .u64 18446744073709551615, .int .i64 (-9223372036854775808), .int .i64 9223372036854775807, .int .u64 0, .int .u64 4294967295, .int .i64 (-2147483648), .int .i64 2147483647] 30) := by have h := (HX1.out.st 0 (.int .u64 (iv (x &&& ~~~mk)))).st 1 (.int .u64 (iv mk)); simp only [zs, z0, z1] at h; exact h
  have HG2 : Hid (Gr w ((W1.setCell ⟨PX, 0, none⟩ (.int .u64 (iv (x &&& ~~~mk)))).setCell ⟨PX, 1, none⟩ (.int .u64 (iv mk)))) := (HG.out.set (by omega) _).set (by omega) _
  clear HA HR HX1 HG a0 f0 f1 d0 d1
  revert HA2 HR2 HX2 HG2
  generalize ((W1.setCell ⟨PX, 0, none⟩ (.int .u64 (iv (x &&& ~~~mk)))).setCell ⟨PX, 1, none⟩ (.int .u64 (iv mk))) = W2
  intro HA2 HR2 HX2 HG2
  go_cut [] (fun wx => ∃ ul uh : Int, (0 ≤ ul ∧ ul ≤ iv x ∧ iv x ≤ uh ∧ uh ≤ 18446744073709551615) ∧ AtA wx PA #[.int .u64 (iv mk), .int .u64 dn, .int .u64 up, .int .u64 ls, .int .u64 mo, .int .u32 hf, .int .u32 tp] 43 ∧ AtA wx PR #[.int .u64 0, .int .u64 0, .int .u64 0, .int .u64 0, .int .i64 0, .int .i64 0, .int .u64 0, .int .u64 0, .int .i64 0, .int .i64 0] 30 ∧ AtA wx PX #[.int .u64 (iv (x &&& ~~~mk)), .int .u64 (iv mk), .int .u64 ul, .int .u64 uh, .int .i64 (-9223372036854775808), .int .i64 9223372036854775807, .int .u64 0, .int .u64 4294967295, .int .i64 (-2147483648), .int .i64 2147483647] 30 ∧ Gr w wx)
  case first =>
    have a1 := HA2.out.cell 1
    have a2 := HA2.out.cell 2
    have f2 := HX2.out.f 2
    have f3 := HX2.out.f 3
    have d2 := HX2.out.cell 2
    have d3 := HX2.out.cell 3
    simp only [List.getElem?_toArray, List.getElem?_cons_zero, List.getElem?_cons_succ] at a1 a2 d2 d3
    have z1 := HX.out
    unfold InU at z1
    have z2 : IntKind.u64.wrap (18446744073709551615 - iv x) = 18446744073709551615 - iv x := by rw [IntKind.wrap_u64]; omega
    rcases Int.lt_or_le dn (iv x) with m1 | m1 <;> rcases Int.lt_or_le up (18446744073709551615 - iv x) with m2 | m2
    all_goals
      go_wp2_with fail
      all_goals first | omega | skip
      go_meet
      case rel =>
        have z3 := H1.out
        unfold InU at z3
        refine ⟨_, _, ?_, HA2.out.other (by omega) _ |>.other (by omega) _, HR2.out.other (by omega) _ |>.other (by omega) _, set2 HX2.out _ _, (HG2.out.set (by omega) _).set (by omega) _⟩
        try simp only [IntKind.wrap_u64]
        omega
  case rest =>
    obtain ⟨ul, uh, hu, ha, hr, hx, hg⟩ := hcut
    have HU : Hid (0 ≤ ul ∧ ul ≤ iv x ∧ iv x ≤ uh ∧ uh ≤ 18446744073709551615) := hu
    have HA3 : Hid (AtA wc PA #[.int .u64 (iv mk), .int .u64 dn, .int .u64 up, .int .u64 ls, .int .u64 mo, .int .u32 hf, .int .u32 tp] 43) := ha
    have HR3 : Hid (AtA wc PR #[.int .u64 0, .int .u64 0, .int .u64 0, .int .u64 0, .int .i64 0, .int .i64 0, .int .u64 0, .int .u64 0, .int .i64 0, .int .i64 0] 30) := hr
    have HX3 : Hid (AtA wc PX #[.int .u64 (iv (x &&& ~~~mk)), .int .u64 (iv mk), .int .u64 ul, .int .u64 uh, .int .i64 (-9223372036854775808), .int .i64 9223372036854775807, .int .u64 0, .int .u64 4294967295, .int .i64 (-2147483648), .int .i64 2147483647] 30) := hx
    have HG3 : Hid (Gr w wc) := hg
    clear hu ha hr hx hg HA2 HR2 HX2 HG2
    obtain ⟨l, ql⟩ : ∃ l, IntKind.u64.wrap (iv x + 9223372036854775808) = l := ⟨_, rfl⟩
    have HL : Hid (0 ≤ l ∧ l ≤ 18446744073709551615 ∧ l - 9223372036854775808 = wrap64 (iv x)) := by
      have z1 := HX.out
      unfold InU at z1
      have : 0 ≤ l ∧ l ≤ 18446744073709551615 ∧ l - 9223372036854775808 = wrap64 (iv x) := by
        rw [← ql, IntKind.wrap_u64]
        unfold wrap64
        omega
      exact this
    go_upto_region 5 with fail
    go_cut [] (fun wx => ∃ sl sh : Int, (-9223372036854775808 ≤ sl ∧ sl ≤ wrap64 (iv x) ∧ wrap64 (iv x) ≤ sh ∧ sh ≤ 9223372036854775807) ∧ AtA wx PA #[.int .u64 (iv mk), .int .u64 dn, .int .u64 up, .int .u64 ls, .int .u64 mo, .int .u32 hf, .int .u32 tp] 43 ∧ AtA wx PR #[.int .u64 0, .int .u64 0, .int .u64 0, .int .u64 0, .int .i64 0, .int .i64 0, .int .u64 0, .int .u64 0, .int .i64 0, .int .i64 0] 30 ∧ AtA wx PX #[.int .u64 (iv (x &&& ~~~mk)), .int .u64 (iv mk), .int .u64 ul, .int .u64 uh, .int .i64 sl, .int .i64 sh, .int .u64 0, .int .u64 4294967295, .int .i64 (-2147483648), .int .i64 2147483647] 30 ∧ Gr w wx)
    case first =>
      have a1 := HA3.out.cell 3
      have a2 := HA3.out.cell 4
      have f2 := HX3.out.f 4
      have f3 := HX3.out.f 5
      have d2 := HX3.out.cell 4
      have d3 := HX3.out.cell 5
      simp only [List.getElem?_toArray, List.getElem?_cons_zero, List.getElem?_cons_succ] at a1 a2 d2 d3
      have z1 := HL.out
      have z2 : IntKind.u64.wrap (18446744073709551615 - l) = 18446744073709551615 - l := by rw [IntKind.wrap_u64]; omega
      rcases Int.lt_or_le ls l with m1 | m1 <;> rcases Int.lt_or_le mo (18446744073709551615 - l) with m2 | m2
      all_goals
        go_wp2_with fail
        all_goals first | omega | skip
        go_meet
        case rel =>
          have z3 := H1.out
          unfold InU at z3
          refine ⟨_, _, ?_, HA3.out.other (by omega) _ |>.other (by omega) _, HR3.out.other (by omega) _ |>.other (by omega) _, set4 HX3.out _ _, (HG3.out.set (by omega) _).set (by omega) _⟩
          rw [← z1.2.2]
          try simp only [IntKind.wrap_u64, wrap64]
          omega
    case rest =>
      obtain ⟨sl, sh, hu, ha, hr, hx, hg⟩ := hcut
      have HS : Hid (-9223372036854775808 ≤ sl ∧ sl ≤ wrap64 (iv x) ∧ wrap64 (iv x) ≤ sh ∧ sh ≤ 9223372036854775807) := hu
      have HA4 : Hid (AtA wc PA #[.int .u64 (iv mk), .int .u64 dn, .int .u64 up, .int .u64 ls, .int .u64 mo, .int .u32 hf, .int .u32 tp] 43) := ha
      have HR4 : Hid (AtA wc PR #[.int .u64 0, .int .u64 0, .int .u64 0, .int .u64 0, .int .i64 0, .int .i64 0, .int .u64 0, .int .u64 0, .int .i64 0, .int .i64 0] 30) := hr
      have HX4 : Hid (AtA wc PX #[.int .u64 (iv (x &&& ~~~mk)), .int .u64 (iv mk), .int .u64 ul, .int .u64 uh, .int .i64 sl, .int .i64 sh, .int .u64 0, .int .u64 4294967295, .int .i64 (-2147483648), .int .i64 2147483647] 30) := hx
      have HG4 : Hid (Gr w wc) := hg
      clear hu ha hr hx hg HA3 HR3 HX3 HG3
      have r1 : (iv x).tmod 4294967296 = iv x % 4294967296 := Int.tmod_eq_emod_of_nonneg HX.out.1
      obtain ⟨k, hk⟩ : ∃ k, iv x % 4294967296 = k := ⟨_, rfl⟩
      have HK : Hid (0 ≤ k ∧ k ≤ 4294967295 ∧ iv x % 4294967296 = k) := by
        have z1 := HX.out
        unfold InU at z1
        have : 0 ≤ k ∧ k ≤ 4294967295 ∧ iv x % 4294967296 = k := by omega
        exact this
      have r2 : IntKind.u64.wrap k = k := by
        have := HK.out
        rw [IntKind.wrap_u64]; omega
      rw [hk] at r1
      clear hk
      go_upto_region 7 with fail
      go_cut [] (fun wx => ∃ wl wh : Int, (0 ≤ wl ∧ wl ≤ k ∧ k ≤ wh ∧ wh ≤ 4294967295) ∧ AtA wx PA #[.int .u64 (iv mk), .int .u64 dn, .int .u64 up, .int .u64 ls, .int .u64 mo, .int .u32 hf, .int .u32 tp] 43 ∧ AtA wx PR #[.int .u64 0, .int .u64 0, .int .u64 0, .int .u64 0, .int .i64 0, .int .i64 0, .int .u64 0, .int .u64 0, .int .i64 0, .int .i64 0] 30 ∧ AtA wx PX #[.int .u64 (iv (x &&& ~~~mk)), .int .u64 (iv mk), .int .u64 ul, .int .u64 uh, .int .i64 sl, .int .i64 sh, .int .u64 wl, .int .u64 wh, .int .i64 (-2147483648), .int .i64 2147483647] 30 ∧ Gr w wx)
      case first =>
        have a1 := HA4.out.cell 5
        have a2 := HA4.out.cell 6
        have f2 := HX4.out.f 6
        have f3 := HX4.out.f 7
        have d2 := HX4.out.cell 6
        have d3 := HX4.out.cell 7
        simp only [List.getElem?_toArray, List.getElem?_cons_zero, List.getElem?_cons_succ] at a1 a2 d2 d3
        have z1 := HK.out
        have z3 := H1.out
        have z2 : IntKind.u64.wrap (4294967295 - k) = 4294967295 - k := by rw [IntKind.wrap_u64]; omega
        have z4 : IntKind.u64.wrap hf = hf := by rw [IntKind.wrap_u64]; omega
        have z5 : IntKind.u64.wrap tp = tp := by rw [IntKind.wrap_u64]; omega
        rcases Int.lt_or_le hf k with m1 | m1 <;> rcases Int.lt_or_le tp (4294967295 - k) with m2 | m2
        all_goals
          go_wp2_with fail
          all_goals first | omega | skip
          go_meet
          case rel =>
            refine ⟨_, _, ?_, HA4.out.other (by omega) _ |>.other (by omega) _, HR4.out.other (by omega) _ |>.other (by omega) _, set6 HX4.out _ _, (HG4.out.set (by omega) _).set (by omega) _⟩
            try simp only [IntKind.wrap_u64]
            omega
      case rest =>
        obtain ⟨wl, wh, hu, ha, hr, hx, hg⟩ := hcut
        have HW : Hid (0 ≤ wl ∧ wl ≤ k ∧ k ≤ wh ∧ wh ≤ 4294967295) := hu
        have HR5 : Hid (AtA wc PR #[.int .u64 0, .int .u64 0, .int .u64 0, .int .u64 0, .int .i64 0, .int .i64 0, .int .u64 0, .int .u64 0, .int .i64 0, .int .i64 0] 30) := hr
        have HX5 : Hid (AtA wc PX #[.int .u64 (iv (x &&& ~~~mk)), .int .u64 (iv mk), .int .u64 ul, .int .u64 uh, .int .i64 sl, .int .i64 sh, .int .u64 wl, .int .u64 wh, .int .i64 (-2147483648), .int .i64 2147483647] 30) := hx
        have HG5 : Hid (Gr w wc) := hg
        clear hu ha hr hx hg HA4 HR4 HX4 HG4 ql r1 r2 q1
        have l0 := HX5.out.cell 0
        have l1 := HX5.out.cell 1
        have l2 := HX5.out.cell 2
        have l3 := HX5.out.cell 3
        have l4 := HX5.out.cell 4
        have l5 := HX5.out.cell 5
        have l6 := HX5.out.cell 6
        have l7 := HX5.out.cell 7
        have l8 := HX5.out.cell 8
        have l9 := HX5.out.cell 9
        simp only [List.getElem?_toArray, List.getElem?_cons_zero, List.getElem?_cons_succ] at l0 l1 l2 l3 l4 l5 l6 l7 l8 l9
        have f0 := (HR5.out).f 0
        have f1 := (HR5.out).f 1
        have f2 := (HR5.out).f 2
        have f3 := (HR5.out).f 3
        have f4 := (HR5.out).f 4
        have f5 := (HR5.out).f 5
        have f6 := (HR5.out).f 6
        have f7 := (HR5.out).f 7
        have f8 := (HR5.out).f 8
        have f9 := (HR5.out).f 9
        have d0 := (HR5.out).cell 0
        have d1 := (HR5.out).cell 1
        have d2 := (HR5.out).cell 2
        have d3 := (HR5.out).cell 3
        have d4 := (HR5.out).cell 4
        have d5 := (HR5.out).cell 5
        have d6 := (HR5.out).cell 6
        have d7 := (HR5.out).cell 7
        have d8 := (HR5.out).cell 8
        have d9 := (HR5.out).cell 9
        simp only [List.getElem?_toArray, List.getElem?_cons_zero, List.getElem?_cons_succ] at d0 d1 d2 d3 d4 d5 d6 d7 d8 d9
        have hz := (((((((((((HR5.out).st 0 (.int .u64 (iv (x &&& ~~~mk)))).st 1 (.int .u64 (iv mk))).st 2 (.int .u64 ul)).st 3 (.int .u64 uh)).st 4 (.int .i64 sl)).st 5 (.int .i64 sh)).st 6 (.int .u64 wl)).st 7 (.int .u64 wh)).st 8 (.int .i64 (-2147483648))).st 9 (.int .i64 2147483647))
        simp only [zs, z0, z1] at hz
        have e0 := hz.cell 0
        have e1 := hz.cell 1
        have e2 := hz.cell 2
        have e3 := hz.cell 3
        have e4 := hz.cell 4
        have e5 := hz.cell 5
        have e6 := hz.cell 6
        have e7 := hz.cell 7
        have e8 := hz.cell 8
        have e9 := hz.cell 9
        simp only [List.getElem?_toArray, List.getElem?_cons_zero, List.getElem?_cons_succ] at e0 e1 e2 e3 e4 e5 e6 e7 e8 e9
        clear hz
        go_wp2_with fail
        refine bodyPost_ret (by simp [results, Tryz.results23, go_sem, e0, e1, e2, e3, e4, e5, e6, e7, e8, e9]; try rfl) rfl ?_
        refine ⟨⟨x &&& ~~~mk, mk, ul, uh, sl, sh, wl, wh, -2147483648, 2147483647⟩, ?_, ?_, rfl, ((((((((((HG5.out.set (by omega) _).set (by omega) _).set (by omega) _).set (by omega) _).set (by omega) _).set (by omega) _).set (by omega) _).set (by omega) _).set (by omega) _).set (by omega) _)⟩
        · have z1 := HU.out
          have z2 := HS.out
          have z3 := HW.out
          refine ⟨?_, by show 0 ≤ ul; omega, by show ul ≤ uh; omega, by show uh ≤ _; omega, by show _ ≤ sl; omega, by show sl ≤ sh; omega, by show sh ≤ _; omega, by show 0 ≤ wl; omega, by show wl ≤ wh; omega, by show wh ≤ _; omega, by show (-2147483648 : Int) ≤ -2147483648; omega, by show (-2147483648 : Int) ≤ 2147483647; omega, by show (2147483647 : Int) ≤ 2147483647; omega⟩
          show x &&& ~~~mk &&& mk = 0#64
          ext i hi
          simp
        · have z1 := HU.out
          have z2 := HS.out
          have z3 := HW.out
          have z4 := HK.out
          have z5 : -2147483648 ≤ sg (iv x) ∧ sg (iv x) ≤ 2147483647 := by unfold sg; omega
          exact ⟨rfl, z1.2.1, z1.2.2.1, z2.2.1, z2.2.2.1, by show wl ≤ _; omega, by show _ ≤ wh; omega, z5.1, z5.2⟩
end Go.Proofs.YtcbcijibgpaipaaGreat
