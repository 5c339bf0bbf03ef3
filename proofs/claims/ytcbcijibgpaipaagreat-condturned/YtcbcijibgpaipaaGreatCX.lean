/- Towards the statements of package cond (layer 6): a number that is taken from a bound. -/
import Derived.Test.YtcbcijibgpaipaaGreatCA
import Derived.Test.YtcbcijibgpaipaaGreatMN
import Derived.Deep.DeepCutAuto
namespace Go.Proofs.YtcbcijibgpaipaaGreat
open Go.ChangeShapes Go.WideShapes Go.ChangeAt Go.RowKit
open Tn (iv)
set_option linter.unusedVariables false
set_option linter.unusedSimpArgs false
set_option maxRecDepth 20000

set_option maxHeartbeats 16000000 in
theorem wo1_t (a : Bd) (n : Int) (h0 : 0 ≤ a.ul) (h1 : a.ul ≤ a.uh) (h2 : a.uh ≤ 18446744073709551615) (p PW : Nat) (w : World) (npPW : p ≠ PW) (HA : AtA w p (bv a) 30) (HW : AtA w PW #[.bool true] 4) : Calls Tryz.prog 282 #[.pointer (some ⟨p, 0, none⟩), .int .u64 n, .pointer (some ⟨PW, 0, none⟩)] w fun e w' => e = .returned (.tuple #[]) ∧ AtA w' p (bv { a with ul := woL a.ul a.uh n, uh := woH a.ul a.uh n }) 30 ∧ GrX p w w' := by
  go_enter Tryz.func282, Tryz.ntmps282
  go_upto_region 0 with fail
  refine rG ?_
  refine sF rfl ?_
  refine wM (v := .pointer (some ⟨p, 0, none⟩)) rfl rfl ?_
  simp only [Act.put, zs, z0, z1]
  refine sF rfl ?_
  refine wp_ld_bool (v := .bool true) rfl rfl (HW) rfl ?_
  simp only [Act.put, zs, z0, z1]
  refine sF rfl ?_
  refine wp_call2 rfl rfl rfl (by go_simp) ?_
  refine ((fun w => k_spanOf_t p w) _).mono ?_
  rintro e wk1 ⟨rfl, hk1⟩
  refine ⟨_, rfl, ?_⟩
  have hp_1 := (HA).gr hk1
  have hPW_1 := (HW).gr hk1
  have hF_1 := (GrL.refl [p] w).then hk1
  simp only [Act.put, zs, z0, z1]
  refine sF rfl ?_
  refine wA (v := .pointer (some ⟨p, 2, none⟩)) rfl rfl ?_
  simp only [Act.put, zs, z0, z1]
  refine s_end ?_
  go_upto_region 1 with fail
  refine rG ?_
  refine sF rfl ?_
  refine wM (v := .pointer (some ⟨p, 2, none⟩)) rfl rfl ?_
  simp only [Act.put, zs, z0, z1]
  refine sF rfl ?_
  refine wM (v := .pointer (some ⟨p, 2, none⟩)) rfl rfl ?_
  simp only [Act.put, zs, z0, z1]
  refine sF rfl ?_
  refine wp_nil (r := ⟨p, 2, none⟩) rfl rfl ?_
  simp only [Act.put, zs, z0, z1]
  refine sF rfl ?_
  refine wp_pU (v0 := .int .u64 a.ul) (v1 := .int .u64 a.uh) rfl rfl (hp_1) rfl rfl ?_
  simp only [Act.put, zs, z0, z1]
  refine sF rfl ?_
  refine wM (v := .int .u64 n) rfl rfl ?_
  simp only [Act.put, zs, z0, z1]
  refine sF rfl ?_
  refine wp_call2 rfl rfl rfl (by go_simp) ?_
  refine ((fun w => k_without_u64 a.ul a.uh n h0 h1 h2 w) _).mono ?_
  rintro e wk2 ⟨rfl, hk2⟩
  refine ⟨_, rfl, ?_⟩
  have hp_2 := (hp_1).gr hk2
  have hPW_2 := (hPW_1).gr hk2
  have hF_2 := (hF_1).then hk2
  simp only [Act.put, zs, z0, z1]
  refine sF rfl ?_
  refine wp_nil (r := ⟨p, 2, none⟩) rfl rfl ?_
  simp only [Act.put, zs, z0, z1]
  refine sF rfl ?_
  refine wp_stU rfl rfl rfl (hp_2) ?_
  intro ws3 hs3 gx3
  have hPW_3 := (hPW_2).grx gx3 (Ne.symm npPW)
  have hF_3 := (hF_2).thenx gx3 (.inl m1)
  change AtA ws3 p (bv { a with ul := (woL a.ul a.uh n), uh := (woH a.ul a.uh n) }) 30 at hs3
  simp only [Act.put, zs, z0, z1]
  refine s_end ?_
  go_wp2
  go_returns
  exact ⟨rfl, hs3, ⟨(hF_3).size, fun r h1 h2 => (hF_3).block r h1 (n1 h2), fun w0 g hp => (hF_3).gr w0 g (by simpa using hp)⟩⟩
set_option maxHeartbeats 16000000 in
theorem wo2_t (a : Bd) (n : Int) (h0 : -9223372036854775808 ≤ a.sl) (h1 : a.sl ≤ a.sh) (h2 : a.sh ≤ 9223372036854775807) (p PW : Nat) (w : World) (npPW : p ≠ PW) (HA : AtA w p (bv a) 30) (HW : AtA w PW #[.bool true] 4) : Calls Tryz.prog 284 #[.pointer (some ⟨p, 0, none⟩), .int .u64 n, .pointer (some ⟨PW, 0, none⟩)] w fun e w' => e = .returned (.tuple #[]) ∧ AtA w' p (bv { a with sl := woL a.sl a.sh (wrap64 n), sh := woH a.sl a.sh (wrap64 n) }) 30 ∧ GrX p w w' := by
  go_enter Tryz.func284, Tryz.ntmps284
  go_upto_region 0 with fail
  refine rG ?_
  refine sF rfl ?_
  refine wM (v := .pointer (some ⟨p, 0, none⟩)) rfl rfl ?_
  simp only [Act.put, zs, z0, z1]
  refine sF rfl ?_
  refine wp_ld_bool (v := .bool true) rfl rfl (HW) rfl ?_
  simp only [Act.put, zs, z0, z1]
  refine sF rfl ?_
  refine wp_call2 rfl rfl rfl (by go_simp) ?_
  refine ((fun w => k_reachOf_t p w) _).mono ?_
  rintro e wk1 ⟨rfl, hk1⟩
  refine ⟨_, rfl, ?_⟩
  have hp_1 := (HA).gr hk1
  have hPW_1 := (HW).gr hk1
  have hF_1 := (GrL.refl [p] w).then hk1
  simp only [Act.put, zs, z0, z1]
  refine sF rfl ?_
  refine wA (v := .pointer (some ⟨p, 4, none⟩)) rfl rfl ?_
  simp only [Act.put, zs, z0, z1]
  refine s_end ?_
  go_upto_region 1 with fail
  refine wp_region_inv (by kernel_rfl) (fun L ac wx =>  ac = ⟨(.pointer (some ⟨p, 0, none⟩) :: .int .u64 n :: .pointer (some ⟨PW, 0, none⟩) :: undef :: undef :: .pointer (some ⟨p, 4, none⟩) :: .pointer (some ⟨p, 0, none⟩) :: .bool true :: .pointer (some ⟨p, 4, none⟩) :: sel (L 0) (.pointer (some ⟨p, 4, none⟩)) (undef) :: sel (L 1) (.pointer (some ⟨p, 4, none⟩)) (undef) :: sel (L 2) (.pointer (some ⟨p, 4, none⟩)) (undef) :: sel (L 3) (.agg #[.int .i64 a.sl, .int .i64 a.sh]) (undef) :: sel (L 4) (.int .u64 n) (undef) :: sel (L 5) (.bool true) (undef) :: sel (L 6) (.int .i64 (wrap64 n)) (undef) :: sel (L 7) (.agg #[.int .i64 (woL a.sl a.sh (wrap64 n)), .int .i64 (woH a.sl a.sh (wrap64 n))]) (undef) :: sel (L 8) (.pointer (some ⟨p, 4, none⟩)) (undef) :: [] : List Value).toArray, []⟩ ∧ GrL [p] wk1 wx ∧ AtA wx p (sel (L 9) (bv { a with sl := (woL a.sl a.sh (wrap64 n)), sh := (woH a.sl a.sh (wrap64 n)) }) (bv a)) 30 ∧ (L 9 = true → L 3 = true)) (by kernel_rfl) ?h0 ?step ?fin
  case h0 => exact ⟨rfl, GrL.of (Gr.drew (Gr.refl _)), (hp_1).drew, (fun h => by cases h)⟩
  case step =>
    refine allOps_cons 0 ?_ ?_
    · refine kF rfl ?_
      rintro L ac wx hL hd ⟨rfl, hG, Ap, o9_3⟩
      refine wM (v := .pointer (some ⟨p, 4, none⟩)) rfl rfl ?_
      exact ⟨rfl, hG, Ap, o9_3⟩
    refine allOps_cons 1 ?_ ?_
    · refine kF rfl ?_
      rintro L ac wx hL hd ⟨rfl, hG, Ap, o9_3⟩
      refine wM (v := .pointer (some ⟨p, 4, none⟩)) rfl rfl ?_
      exact ⟨rfl, hG, Ap, o9_3⟩
    refine allOps_cons 2 ?_ ?_
    · refine kF rfl ?_
      rintro L ac wx hL hd ⟨rfl, hG, Ap, o9_3⟩
      obtain ⟨e0, -⟩ := hd
      refine wp_nil (r := ⟨p, 4, none⟩) rfl (sel_of (e0 rfl)) ?_
      exact ⟨rfl, hG, Ap, o9_3⟩
    refine allOps_cons 3 ?_ ?_
    · refine kF rfl ?_
      rintro L ac wx hL hd ⟨rfl, hG, Ap, o9_3⟩
      obtain ⟨e0, -⟩ := hd
      have li : L 9 = false := by
        cases h : L 9 with
        | false => rfl
        | true => have := o9_3 h; rw [hL] at this; cases this
      have HL := Ap; rw [li] at HL
      refine wp_pS (v0 := .int .i64 a.sl) (v1 := .int .i64 a.sh) rfl (sel_of (e0 rfl)) (HL) rfl rfl ?_
      exact ⟨rfl, hG, Ap, fun _ => rfl⟩
    refine allOps_cons 4 ?_ ?_
    · refine kF rfl ?_
      rintro L ac wx hL hd ⟨rfl, hG, Ap, o9_3⟩
      refine wM (v := .int .u64 n) rfl rfl ?_
      exact ⟨rfl, hG, Ap, o9_3⟩
    refine allOps_cons 5 ?_ ?_
    · refine kF rfl ?_
      rintro L ac wx hL hd ⟨rfl, hG, Ap, o9_3⟩
      have HL := (hPW_1).grl hG (n1 (Ne.symm npPW))
      refine wp_ld_bool (v := .bool true) rfl rfl (HL) rfl ?_
      exact ⟨rfl, hG, Ap, o9_3⟩
    refine allOps_cons 6 ?_ ?_
    · refine kF rfl ?_
      rintro L ac wx hL hd ⟨rfl, hG, Ap, o9_3⟩
      obtain ⟨e0, e1, -⟩ := hd
      refine wp_call2 rfl (sel_of (e0 rfl)) (sel_of (e1 rfl)) (by go_simp) ?_
      refine ((fun w => k_signOf_t n w) _).mono ?_
      rintro e w1 ⟨rfl, hg⟩
      refine ⟨_, rfl, ?_⟩
      exact ⟨rfl, hG.then hg, Ap.gr hg, o9_3⟩
    refine allOps_cons 7 ?_ ?_
    · refine kF rfl ?_
      rintro L ac wx hL hd ⟨rfl, hG, Ap, o9_3⟩
      obtain ⟨e0, e1, e2, -⟩ := hd
      refine wp_call2 rfl (sel_of (e0 rfl)) (sel_of (e1 rfl)) (by go_simp) ?_
      refine ((fun w => k_without_i64 a.sl a.sh (wrap64 n) h0 h1 h2 w) _).mono ?_
      rintro e w1 ⟨rfl, hg⟩
      refine ⟨_, rfl, ?_⟩
      exact ⟨rfl, hG.then hg, Ap.gr hg, o9_3⟩
    refine allOps_cons 8 ?_ ?_
    · refine kF rfl ?_
      rintro L ac wx hL hd ⟨rfl, hG, Ap, o9_3⟩
      obtain ⟨e0, e1, e2, e3, e4, e5, e6, e7, e8, -⟩ := hd
      refine wp_nil (r := ⟨p, 4, none⟩) rfl (sel_of (e0 rfl)) ?_
      exact ⟨rfl, hG, Ap, o9_3⟩
    refine allOps_cons 9 ?_ ?_
    · refine kF rfl ?_
      rintro L ac wx hL hd ⟨rfl, hG, Ap, o9_3⟩
      obtain ⟨e0, e1, e2, e3, e4, e5, e6, e7, e8, e9, e10, -⟩ := hd
      have HL := Ap; rw [hL] at HL
      refine wp_stS rfl (sel_of (e0 rfl)) (sel_of (e1 rfl)) HL ?_
      intro w1 hn hgx
      exact ⟨rfl, hG.thenx hgx (.inl m1), hn, fun _ => e6 rfl⟩
    exact allOps_nil 10
  case fin =>
    rintro L ac wf2 hall ⟨rfl, hG2, B2p, o9_3⟩
    have l0 : L 0 = true := hall 0 (by decide)
    have l1 : L 1 = true := hall 1 (by decide)
    have l2 : L 2 = true := hall 2 (by decide)
    have l3 : L 3 = true := hall 3 (by decide)
    have l4 : L 4 = true := hall 4 (by decide)
    have l5 : L 5 = true := hall 5 (by decide)
    have l6 : L 6 = true := hall 6 (by decide)
    have l7 : L 7 = true := hall 7 (by decide)
    have l8 : L 8 = true := hall 8 (by decide)
    have l9 : L 9 = true := hall 9 (by decide)
    rw [l9] at B2p
    change AtA wf2 p (bv { a with sl := (woL a.sl a.sh (wrap64 n)), sh := (woH a.sl a.sh (wrap64 n)) }) 30 at B2p
    simp only [l0, l1, l2, l3, l4, l5, l6, l7, l8, sel_t]
    have hPW_c2 := (hPW_1).grl hG2 (n1 (Ne.symm npPW))
    have hF_c2 := (hF_1).app hG2 (r1 (.inl m1))
    clear l0 l1 l2 l3 l4 l5 l6 l7 l8 l9 hall o9_3
    go_wp2
    go_returns
    exact ⟨rfl, B2p, ⟨(hF_c2).size, fun r h1 h2 => (hF_c2).block r h1 (n1 h2), fun w0 g hp => (hF_c2).gr w0 g (by simpa using hp)⟩⟩
set_option maxHeartbeats 16000000 in
theorem wo1_f (a : Bd) (n : Int) (h0 : 0 ≤ a.wl) (h1 : a.wl ≤ a.wh) (h2 : a.wh ≤ 18446744073709551615) (p PW : Nat) (w : World) (npPW : p ≠ PW) (HA : AtA w p (bv a) 30) (HW : AtA w PW #[.bool false] 4) : Calls Tryz.prog 282 #[.pointer (some ⟨p, 0, none⟩), .int .u64 n, .pointer (some ⟨PW, 0, none⟩)] w fun e w' => e = .returned (.tuple #[]) ∧ AtA w' p (bv { a with wl := woL a.wl a.wh n, wh := woH a.wl a.wh n }) 30 ∧ GrX p w w' := by
  go_enter Tryz.func282, Tryz.ntmps282
  go_upto_region 0 with fail
  refine rG ?_
  refine sF rfl ?_
  refine wM (v := .pointer (some ⟨p, 0, none⟩)) rfl rfl ?_
  simp only [Act.put, zs, z0, z1]
  refine sF rfl ?_
  refine wp_ld_bool (v := .bool false) rfl rfl (HW) rfl ?_
  simp only [Act.put, zs, z0, z1]
  refine sF rfl ?_
  refine wp_call2 rfl rfl rfl (by go_simp) ?_
  refine ((fun w => k_spanOf_f p w) _).mono ?_
  rintro e wk1 ⟨rfl, hk1⟩
  refine ⟨_, rfl, ?_⟩
  have hp_1 := (HA).gr hk1
  have hPW_1 := (HW).gr hk1
  have hF_1 := (GrL.refl [p] w).then hk1
  simp only [Act.put, zs, z0, z1]
  refine sF rfl ?_
  refine wA (v := .pointer (some ⟨p, 6, none⟩)) rfl rfl ?_
  simp only [Act.put, zs, z0, z1]
  refine s_end ?_
  go_upto_region 1 with fail
  refine rG ?_
  refine sF rfl ?_
  refine wM (v := .pointer (some ⟨p, 6, none⟩)) rfl rfl ?_
  simp only [Act.put, zs, z0, z1]
  refine sF rfl ?_
  refine wM (v := .pointer (some ⟨p, 6, none⟩)) rfl rfl ?_
  simp only [Act.put, zs, z0, z1]
  refine sF rfl ?_
  refine wp_nil (r := ⟨p, 6, none⟩) rfl rfl ?_
  simp only [Act.put, zs, z0, z1]
  refine sF rfl ?_
  refine wp_pU (v0 := .int .u64 a.wl) (v1 := .int .u64 a.wh) rfl rfl (hp_1) rfl rfl ?_
  simp only [Act.put, zs, z0, z1]
  refine sF rfl ?_
  refine wM (v := .int .u64 n) rfl rfl ?_
  simp only [Act.put, zs, z0, z1]
  refine sF rfl ?_
  refine wp_call2 rfl rfl rfl (by go_simp) ?_
  refine ((fun w => k_without_u64 a.wl a.wh n h0 h1 h2 w) _).mono ?_
  rintro e wk2 ⟨rfl, hk2⟩
  refine ⟨_, rfl, ?_⟩
  have hp_2 := (hp_1).gr hk2
  have hPW_2 := (hPW_1).gr hk2
  have hF_2 := (hF_1).then hk2
  simp only [Act.put, zs, z0, z1]
  refine sF rfl ?_
  refine wp_nil (r := ⟨p, 6, none⟩) rfl rfl ?_
  simp only [Act.put, zs, z0, z1]
  refine sF rfl ?_
  refine wp_stW rfl rfl rfl (hp_2) ?_
  intro ws3 hs3 gx3
  have hPW_3 := (hPW_2).grx gx3 (Ne.symm npPW)
  have hF_3 := (hF_2).thenx gx3 (.inl m1)
  change AtA ws3 p (bv { a with wl := (woL a.wl a.wh n), wh := (woH a.wl a.wh n) }) 30 at hs3
  simp only [Act.put, zs, z0, z1]
  refine s_end ?_
  go_wp2
  go_returns
  exact ⟨rfl, hs3, ⟨(hF_3).size, fun r h1 h2 => (hF_3).block r h1 (n1 h2), fun w0 g hp => (hF_3).gr w0 g (by simpa using hp)⟩⟩
set_option maxHeartbeats 16000000 in
theorem wo2_f (a : Bd) (n : Int) (h0 : -9223372036854775808 ≤ a.vl) (h1 : a.vl ≤ a.vh) (h2 : a.vh ≤ 9223372036854775807) (p PW : Nat) (w : World) (npPW : p ≠ PW) (HA : AtA w p (bv a) 30) (HW : AtA w PW #[.bool false] 4) : Calls Tryz.prog 284 #[.pointer (some ⟨p, 0, none⟩), .int .u64 n, .pointer (some ⟨PW, 0, none⟩)] w fun e w' => e = .returned (.tuple #[]) ∧ AtA w' p (bv { a with vl := woL a.vl a.vh (sg n), vh := woH a.vl a.vh (sg n) }) 30 ∧ GrX p w w' := by
  go_enter Tryz.func284, Tryz.ntmps284
  go_upto_region 0 with fail
  refine rG ?_
  refine sF rfl ?_
  refine wM (v := .pointer (some ⟨p, 0, none⟩)) rfl rfl ?_
  simp only [Act.put, zs, z0, z1]
  refine sF rfl ?_
  refine wp_ld_bool (v := .bool false) rfl rfl (HW) rfl ?_
  simp only [Act.put, zs, z0, z1]
  refine sF rfl ?_
  refine wp_call2 rfl rfl rfl (by go_simp) ?_
  refine ((fun w => k_reachOf_f p w) _).mono ?_
  rintro e wk1 ⟨rfl, hk1⟩
  refine ⟨_, rfl, ?_⟩
  have hp_1 := (HA).gr hk1
  have hPW_1 := (HW).gr hk1
  have hF_1 := (GrL.refl [p] w).then hk1
  simp only [Act.put, zs, z0, z1]
  refine sF rfl ?_
  refine wA (v := .pointer (some ⟨p, 8, none⟩)) rfl rfl ?_
  simp only [Act.put, zs, z0, z1]
  refine s_end ?_
  go_upto_region 1 with fail
  refine wp_region_inv (by kernel_rfl) (fun L ac wx =>  ac = ⟨(.pointer (some ⟨p, 0, none⟩) :: .int .u64 n :: .pointer (some ⟨PW, 0, none⟩) :: undef :: undef :: .pointer (some ⟨p, 8, none⟩) :: .pointer (some ⟨p, 0, none⟩) :: .bool false :: .pointer (some ⟨p, 8, none⟩) :: sel (L 0) (.pointer (some ⟨p, 8, none⟩)) (undef) :: sel (L 1) (.pointer (some ⟨p, 8, none⟩)) (undef) :: sel (L 2) (.pointer (some ⟨p, 8, none⟩)) (undef) :: sel (L 3) (.agg #[.int .i64 a.vl, .int .i64 a.vh]) (undef) :: sel (L 4) (.int .u64 n) (undef) :: sel (L 5) (.bool false) (undef) :: sel (L 6) (.int .i64 (sg n)) (undef) :: sel (L 7) (.agg #[.int .i64 (woL a.vl a.vh (sg n)), .int .i64 (woH a.vl a.vh (sg n))]) (undef) :: sel (L 8) (.pointer (some ⟨p, 8, none⟩)) (undef) :: [] : List Value).toArray, []⟩ ∧ GrL [p] wk1 wx ∧ AtA wx p (sel (L 9) (bv { a with vl := (woL a.vl a.vh (sg n)), vh := (woH a.vl a.vh (sg n)) }) (bv a)) 30 ∧ (L 9 = true → L 3 = true)) (by kernel_rfl) ?h0 ?step ?fin
  case h0 => exact ⟨rfl, GrL.of (Gr.drew (Gr.refl _)), (hp_1).drew, (fun h => by cases h)⟩
  case step =>
    refine allOps_cons 0 ?_ ?_
    · refine kF rfl ?_
      rintro L ac wx hL hd ⟨rfl, hG, Ap, o9_3⟩
      refine wM (v := .pointer (some ⟨p, 8, none⟩)) rfl rfl ?_
      exact ⟨rfl, hG, Ap, o9_3⟩
    refine allOps_cons 1 ?_ ?_
    · refine kF rfl ?_
      rintro L ac wx hL hd ⟨rfl, hG, Ap, o9_3⟩
      refine wM (v := .pointer (some ⟨p, 8, none⟩)) rfl rfl ?_
      exact ⟨rfl, hG, Ap, o9_3⟩
    refine allOps_cons 2 ?_ ?_
    · refine kF rfl ?_
      rintro L ac wx hL hd ⟨rfl, hG, Ap, o9_3⟩
      obtain ⟨e0, -⟩ := hd
      refine wp_nil (r := ⟨p, 8, none⟩) rfl (sel_of (e0 rfl)) ?_
      exact ⟨rfl, hG, Ap, o9_3⟩
    refine allOps_cons 3 ?_ ?_
    · refine kF rfl ?_
      rintro L ac wx hL hd ⟨rfl, hG, Ap, o9_3⟩
      obtain ⟨e0, -⟩ := hd
      have li : L 9 = false := by
        cases h : L 9 with
        | false => rfl
        | true => have := o9_3 h; rw [hL] at this; cases this
      have HL := Ap; rw [li] at HL
      refine wp_pS (v0 := .int .i64 a.vl) (v1 := .int .i64 a.vh) rfl (sel_of (e0 rfl)) (HL) rfl rfl ?_
      exact ⟨rfl, hG, Ap, fun _ => rfl⟩
    refine allOps_cons 4 ?_ ?_
    · refine kF rfl ?_
      rintro L ac wx hL hd ⟨rfl, hG, Ap, o9_3⟩
      refine wM (v := .int .u64 n) rfl rfl ?_
      exact ⟨rfl, hG, Ap, o9_3⟩
    refine allOps_cons 5 ?_ ?_
    · refine kF rfl ?_
      rintro L ac wx hL hd ⟨rfl, hG, Ap, o9_3⟩
      have HL := (hPW_1).grl hG (n1 (Ne.symm npPW))
      refine wp_ld_bool (v := .bool false) rfl rfl (HL) rfl ?_
      exact ⟨rfl, hG, Ap, o9_3⟩
    refine allOps_cons 6 ?_ ?_
    · refine kF rfl ?_
      rintro L ac wx hL hd ⟨rfl, hG, Ap, o9_3⟩
      obtain ⟨e0, e1, -⟩ := hd
      refine wp_call2 rfl (sel_of (e0 rfl)) (sel_of (e1 rfl)) (by go_simp) ?_
      refine ((fun w => k_signOf_f n w) _).mono ?_
      rintro e w1 ⟨rfl, hg⟩
      refine ⟨_, rfl, ?_⟩
      exact ⟨rfl, hG.then hg, Ap.gr hg, o9_3⟩
    refine allOps_cons 7 ?_ ?_
    · refine kF rfl ?_
      rintro L ac wx hL hd ⟨rfl, hG, Ap, o9_3⟩
      obtain ⟨e0, e1, e2, -⟩ := hd
      refine wp_call2 rfl (sel_of (e0 rfl)) (sel_of (e1 rfl)) (by go_simp) ?_
      refine ((fun w => k_without_i64 a.vl a.vh (sg n) h0 h1 h2 w) _).mono ?_
      rintro e w1 ⟨rfl, hg⟩
      refine ⟨_, rfl, ?_⟩
      exact ⟨rfl, hG.then hg, Ap.gr hg, o9_3⟩
    refine allOps_cons 8 ?_ ?_
    · refine kF rfl ?_
      rintro L ac wx hL hd ⟨rfl, hG, Ap, o9_3⟩
      obtain ⟨e0, e1, e2, e3, e4, e5, e6, e7, e8, -⟩ := hd
      refine wp_nil (r := ⟨p, 8, none⟩) rfl (sel_of (e0 rfl)) ?_
      exact ⟨rfl, hG, Ap, o9_3⟩
    refine allOps_cons 9 ?_ ?_
    · refine kF rfl ?_
      rintro L ac wx hL hd ⟨rfl, hG, Ap, o9_3⟩
      obtain ⟨e0, e1, e2, e3, e4, e5, e6, e7, e8, e9, e10, -⟩ := hd
      have HL := Ap; rw [hL] at HL
      refine wp_stV rfl (sel_of (e0 rfl)) (sel_of (e1 rfl)) HL ?_
      intro w1 hn hgx
      exact ⟨rfl, hG.thenx hgx (.inl m1), hn, fun _ => e6 rfl⟩
    exact allOps_nil 10
  case fin =>
    rintro L ac wf2 hall ⟨rfl, hG2, B2p, o9_3⟩
    have l0 : L 0 = true := hall 0 (by decide)
    have l1 : L 1 = true := hall 1 (by decide)
    have l2 : L 2 = true := hall 2 (by decide)
    have l3 : L 3 = true := hall 3 (by decide)
    have l4 : L 4 = true := hall 4 (by decide)
    have l5 : L 5 = true := hall 5 (by decide)
    have l6 : L 6 = true := hall 6 (by decide)
    have l7 : L 7 = true := hall 7 (by decide)
    have l8 : L 8 = true := hall 8 (by decide)
    have l9 : L 9 = true := hall 9 (by decide)
    rw [l9] at B2p
    change AtA wf2 p (bv { a with vl := (woL a.vl a.vh (sg n)), vh := (woH a.vl a.vh (sg n)) }) 30 at B2p
    simp only [l0, l1, l2, l3, l4, l5, l6, l7, l8, sel_t]
    have hPW_c2 := (hPW_1).grl hG2 (n1 (Ne.symm npPW))
    have hF_c2 := (hF_1).app hG2 (r1 (.inl m1))
    clear l0 l1 l2 l3 l4 l5 l6 l7 l8 l9 hall o9_3
    go_wp2
    go_returns
    exact ⟨rfl, B2p, ⟨(hF_c2).size, fun r h1 h2 => (hF_c2).block r h1 (n1 h2), fun w0 g hp => (hF_c2).gr w0 g (by simpa using hp)⟩⟩
end Go.Proofs.YtcbcijibgpaipaaGreat
