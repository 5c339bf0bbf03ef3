/- Towards the statements of package cond (layer 6): what its closures tell two bounds: bits apart, numbers alike. Towards the statements of package cond (layer 6): what its closures tell two bounds: numbers alike. -/
import Derived.Test.YtcbcijibgpaipaaGreatCA
import Derived.Test.YtcbcijibgpaipaaGreatMN
import Derived.Deep.DeepCutAuto
section
namespace Go.Proofs.YtcbcijibgpaipaaGreat
open Go.ChangeShapes Go.WideShapes Go.ChangeAt Go.RowKit
open Tn (iv)
set_option linter.unusedVariables false
set_option linter.unusedSimpArgs false
set_option maxRecDepth 20000

set_option maxHeartbeats 16000000 in
theorem clear_n (wd : Bool) (a b : Bd) (p q : Nat) (w : World) (hpq : p ≠ q) (HA : AtA w p (bv a) 30) (HB : AtA w q (bv b) 30) (PW : Nat) (npPW : p ≠ PW) (nqPW : q ≠ PW) (HW : AtA w PW #[.bool wd] 4) (h1 : Tn.meetX a.tv a.tm 0#64 (~~~(ofT wd b.tv)) = false) : Calls Tryz.prog 238 #[.pointer (some ⟨p, 0, none⟩), .pointer (some ⟨q, 0, none⟩), .pointer (some ⟨PW, 0, none⟩)] w fun e w' => e = .returned (.bool false) ∧ GrL [p, q] w w' := by
 go_enter Tryz.func238, Tryz.ntmps238
 go_upto_region 0 with fail
 refine rG ?_
 refine sF rfl ?_
 refine wA (v := .bool false) rfl rfl ?_
 simp only [Act.put, zs, z0, z1]
 refine s_end ?_
 go_upto_region 1 with fail
 refine wp_region_inv (by kernel_rfl) (fun L ac wx => ∃ (p1_12 : Nat) (p1_13 : Nat), ac = ⟨(.pointer (some ⟨p, 0, none⟩) :: .pointer (some ⟨q, 0, none⟩) :: .pointer (some ⟨PW, 0, none⟩) :: undef :: undef :: .bool false :: sel (L 12) (.pointer (some ⟨p1_12, 0, none⟩)) (undef) :: sel (L 13) (.pointer (some ⟨p1_13, 0, none⟩)) (undef) :: sel (L 0) (.pointer (some ⟨p, 0, none⟩)) (undef) :: sel (L 1) (.pointer (some ⟨p, 0, none⟩)) (undef) :: sel (L 2) (.pointer (some ⟨p, 0, none⟩)) (undef) :: sel (L 3) (.agg #[.int .u64 (iv a.tv), .int .u64 (iv a.tm)]) (undef) :: sel (L 4) (.bool wd) (undef) :: sel (L 5) (.agg #[.int .u64 (iv (ofT wd a.tv)), .int .u64 (iv (ofT wd a.tm))]) (undef) :: sel (L 6) (.pointer (some ⟨q, 0, none⟩)) (undef) :: sel (L 7) (.pointer (some ⟨q, 0, none⟩)) (undef) :: sel (L 8) (.pointer (some ⟨q, 0, none⟩)) (undef) :: sel (L 9) (.agg #[.int .u64 (iv b.tv), .int .u64 (iv b.tm)]) (undef) :: sel (L 10) (.bool wd) (undef) :: sel (L 11) (.agg #[.int .u64 (iv (ofT wd b.tv)), .int .u64 (iv (ofT wd b.tm))]) (undef) :: undef :: undef :: undef :: undef :: undef :: undef :: undef :: undef :: undef :: undef :: undef :: undef :: undef :: undef :: undef :: undef :: [] : List Value).toArray, []⟩ ∧ GrL [] w wx ∧ (L 12 = true → w.heap.size ≤ p1_12 ∧ AtA wx p1_12 (sel (L 14) (#[.int .u64 (iv (ofT wd a.tv)), .int .u64 (iv (ofT wd a.tm))]) (#[.int .u64 0, .int .u64 0])) 24) ∧ (L 13 = true → w.heap.size ≤ p1_13 ∧ AtA wx p1_13 (sel (L 15) (#[.int .u64 (iv (ofT wd b.tv)), .int .u64 (iv (ofT wd b.tm))]) (#[.int .u64 0, .int .u64 0])) 24) ∧ (L 14 = true → L 12 = true) ∧ (L 15 = true → L 13 = true) ∧ (L 12 = true → L 13 = true → p1_12 ≠ p1_13)) (by kernel_rfl) ?h0 ?step ?fin
 case h0 => exact ⟨0, 0, rfl, GrL.of (Gr.drew (Gr.refl _)), (fun h => by cases h), (fun h => by cases h), (fun h => by cases h), (fun h => by cases h), (fun h => by cases h)⟩
 case step =>
  refine allOps_cons 0 ?_ ?_
  ·refine kF rfl ?_
   rintro L ac wx hL hd ⟨p1_12, p1_13, rfl, hG, f12, f13, s14, s15, g12_13⟩
   refine wM (v := .pointer (some ⟨p, 0, none⟩)) rfl rfl ?_
   exact ⟨p1_12, p1_13, rfl, hG, f12, f13, s14, s15, g12_13⟩
  refine allOps_cons 1 ?_ ?_
  ·refine kF rfl ?_
   rintro L ac wx hL hd ⟨p1_12, p1_13, rfl, hG, f12, f13, s14, s15, g12_13⟩
   obtain ⟨e0, -⟩ := hd
   refine wp_nil (r := ⟨p, 0, none⟩) rfl (sel_of (e0 rfl)) ?_
   exact ⟨p1_12, p1_13, rfl, hG, f12, f13, s14, s15, g12_13⟩
  refine allOps_cons 2 ?_ ?_
  ·refine kF rfl ?_
   rintro L ac wx hL hd ⟨p1_12, p1_13, rfl, hG, f12, f13, s14, s15, g12_13⟩
   obtain ⟨e0, -⟩ := hd
   refine wp_fa0 rfl (sel_of (e0 rfl)) ?_
   exact ⟨p1_12, p1_13, rfl, hG, f12, f13, s14, s15, g12_13⟩
  refine allOps_cons 3 ?_ ?_
  ·refine kF rfl ?_
   rintro L ac wx hL hd ⟨p1_12, p1_13, rfl, hG, f12, f13, s14, s15, g12_13⟩
   obtain ⟨e0, -⟩ := hd
   have HL := (HA).grl hG n0
   refine wp_pT (v0 := .int .u64 (iv a.tv)) (v1 := .int .u64 (iv a.tm)) rfl (sel_of (e0 rfl)) (HL) rfl rfl ?_
   exact ⟨p1_12, p1_13, rfl, hG, f12, f13, s14, s15, g12_13⟩
  refine allOps_cons 4 ?_ ?_
  ·refine kF rfl ?_
   rintro L ac wx hL hd ⟨p1_12, p1_13, rfl, hG, f12, f13, s14, s15, g12_13⟩
   have HL := (HW).grl hG n0
   refine wp_ld_bool (v := .bool wd) rfl rfl (HL) rfl ?_
   exact ⟨p1_12, p1_13, rfl, hG, f12, f13, s14, s15, g12_13⟩
  refine allOps_cons 5 ?_ ?_
  ·refine kF rfl ?_
   rintro L ac wx hL hd ⟨p1_12, p1_13, rfl, hG, f12, f13, s14, s15, g12_13⟩
   obtain ⟨e0, e1, -⟩ := hd
   refine wp_call2 rfl (sel_of (e0 rfl)) (sel_of (e1 rfl)) (by go_simp) ?_
   refine ((fun w => k_bitsOf wd a.tv a.tm w) _).mono ?_
   rintro e w1 ⟨rfl, hg⟩
   refine ⟨_, rfl, ?_⟩
   exact ⟨p1_12, p1_13, rfl, hG.then hg, fun h => ⟨(f12 h).1, (f12 h).2.gr hg⟩, fun h => ⟨(f13 h).1, (f13 h).2.gr hg⟩, s14, s15, g12_13⟩
  refine allOps_cons 6 ?_ ?_
  ·refine kF rfl ?_
   rintro L ac wx hL hd ⟨p1_12, p1_13, rfl, hG, f12, f13, s14, s15, g12_13⟩
   refine wM (v := .pointer (some ⟨q, 0, none⟩)) rfl rfl ?_
   exact ⟨p1_12, p1_13, rfl, hG, f12, f13, s14, s15, g12_13⟩
  refine allOps_cons 7 ?_ ?_
  ·refine kF rfl ?_
   rintro L ac wx hL hd ⟨p1_12, p1_13, rfl, hG, f12, f13, s14, s15, g12_13⟩
   obtain ⟨e0, -⟩ := hd
   refine wp_nil (r := ⟨q, 0, none⟩) rfl (sel_of (e0 rfl)) ?_
   exact ⟨p1_12, p1_13, rfl, hG, f12, f13, s14, s15, g12_13⟩
  refine allOps_cons 8 ?_ ?_
  ·refine kF rfl ?_
   rintro L ac wx hL hd ⟨p1_12, p1_13, rfl, hG, f12, f13, s14, s15, g12_13⟩
   obtain ⟨e0, -⟩ := hd
   refine wp_fa0 rfl (sel_of (e0 rfl)) ?_
   exact ⟨p1_12, p1_13, rfl, hG, f12, f13, s14, s15, g12_13⟩
  refine allOps_cons 9 ?_ ?_
  ·refine kF rfl ?_
   rintro L ac wx hL hd ⟨p1_12, p1_13, rfl, hG, f12, f13, s14, s15, g12_13⟩
   obtain ⟨e0, -⟩ := hd
   have HL := (HB).grl hG n0
   refine wp_pT (v0 := .int .u64 (iv b.tv)) (v1 := .int .u64 (iv b.tm)) rfl (sel_of (e0 rfl)) (HL) rfl rfl ?_
   exact ⟨p1_12, p1_13, rfl, hG, f12, f13, s14, s15, g12_13⟩
  refine allOps_cons 10 ?_ ?_
  ·refine kF rfl ?_
   rintro L ac wx hL hd ⟨p1_12, p1_13, rfl, hG, f12, f13, s14, s15, g12_13⟩
   have HL := (HW).grl hG n0
   refine wp_ld_bool (v := .bool wd) rfl rfl (HL) rfl ?_
   exact ⟨p1_12, p1_13, rfl, hG, f12, f13, s14, s15, g12_13⟩
  refine allOps_cons 11 ?_ ?_
  ·refine kF rfl ?_
   rintro L ac wx hL hd ⟨p1_12, p1_13, rfl, hG, f12, f13, s14, s15, g12_13⟩
   obtain ⟨e0, e1, e2, -⟩ := hd
   refine wp_call2 rfl (sel_of (e0 rfl)) (sel_of (e1 rfl)) (by go_simp) ?_
   refine ((fun w => k_bitsOf wd b.tv b.tm w) _).mono ?_
   rintro e w1 ⟨rfl, hg⟩
   refine ⟨_, rfl, ?_⟩
   exact ⟨p1_12, p1_13, rfl, hG.then hg, fun h => ⟨(f12 h).1, (f12 h).2.gr hg⟩, fun h => ⟨(f13 h).1, (f13 h).2.gr hg⟩, s14, s15, g12_13⟩
  refine allOps_cons 12 ?_ ?_
  ·refine kF rfl ?_
   rintro L ac wx hL hd ⟨p1_12, p1_13, rfl, hG, f12, f13, s14, s15, g12_13⟩
   have ls : L 14 = false := by
    cases h : L 14 with
    | false => rfl
    | true => have := s14 h; rw [hL] at this; cases this
   refine wp_allocT rfl ?_
   intro w1 hn hg
   exact ⟨wx.heap.size, p1_13, rfl, hG.then hg, fun _ => ⟨hG.size, by rw [show upd L 12 14 = false from ls]; exact hn⟩, fun h => ⟨(f13 h).1, (f13 h).2.gr hg⟩, fun _ => rfl, s15, fun _ h => by have z := (f13 h).2.lt; omega⟩
  refine allOps_cons 13 ?_ ?_
  ·refine kF rfl ?_
   rintro L ac wx hL hd ⟨p1_12, p1_13, rfl, hG, f12, f13, s14, s15, g12_13⟩
   have ls : L 15 = false := by
    cases h : L 15 with
    | false => rfl
    | true => have := s15 h; rw [hL] at this; cases this
   refine wp_allocT rfl ?_
   intro w1 hn hg
   exact ⟨p1_12, wx.heap.size, rfl, hG.then hg, fun h => ⟨(f12 h).1, (f12 h).2.gr hg⟩, fun _ => ⟨hG.size, by rw [show upd L 13 15 = false from ls]; exact hn⟩, s14, fun _ => rfl, fun h _ => by have z := (f12 h).2.lt; omega⟩
  refine allOps_cons 14 ?_ ?_
  ·refine kF rfl ?_
   rintro L ac wx hL hd ⟨p1_12, p1_13, rfl, hG, f12, f13, s14, s15, g12_13⟩
   obtain ⟨e0, e1, e2, e3, e4, e5, e6, e7, e8, e9, e10, e11, e12, e13, e14, e15, e16, -⟩ := hd
   have lp : L 12 = true := e0 rfl
   obtain ⟨k12, z12⟩ := f12 lp
   have HL := z12; rw [hL] at HL
   refine wp_storeT rfl (sel_of (e0 rfl)) (sel_of (e1 rfl)) HL ?_
   intro w1 hn hgx
   exact ⟨p1_12, p1_13, rfl, hG.thenx hgx (.inr k12), fun _ => ⟨k12, hn⟩, fun h => ⟨(f13 h).1, (f13 h).2.grx hgx (Ne.symm (g12_13 lp h))⟩, fun _ => lp, s15, g12_13⟩
  refine allOps_cons 15 ?_ ?_
  ·refine kF rfl ?_
   rintro L ac wx hL hd ⟨p1_12, p1_13, rfl, hG, f12, f13, s14, s15, g12_13⟩
   obtain ⟨e0, e1, e2, e3, e4, e5, e6, e7, e8, e9, e10, e11, e12, e13, e14, e15, e16, e17, -⟩ := hd
   have lp : L 13 = true := e0 rfl
   obtain ⟨k13, z13⟩ := f13 lp
   have HL := z13; rw [hL] at HL
   refine wp_storeT rfl (sel_of (e0 rfl)) (sel_of (e1 rfl)) HL ?_
   intro w1 hn hgx
   exact ⟨p1_12, p1_13, rfl, hG.thenx hgx (.inr k13), fun h => ⟨(f12 h).1, (f12 h).2.grx hgx (g12_13 h lp)⟩, fun _ => ⟨k13, hn⟩, s14, fun _ => lp, g12_13⟩
  exact allOps_nil 16
 case fin =>
  rintro L ac wf1 hall ⟨p1_12, p1_13, rfl, hG1, f12, f13, s14, s15, g12_13⟩
  have l0 : L 0 = true := hall 0 (by decide)
  have l1 : L 1 = true := hall 1 (by decide)
  have l2 : L 2 = true := hall 2 (by decide)
  have l3 : L 3 = true := hall 3 (by decide)
  have l4 : L 4 = true := hall 4 (by decide)
  have l5 : L 5 = true := hall 5 (by decide)
  have l6 : L 6 = true := hall 6 (by decide)
  have l7 : L 7 = true := hall 7 (by decide)
  have l8 : L 8 = true := hall 8 (by decide)
  have l9 : L 9 = true := hall 9 (by decide)
  have l10 : L 10 = true := hall 10 (by decide)
  have l11 : L 11 = true := hall 11 (by decide)
  have l12 : L 12 = true := hall 12 (by decide)
  have l13 : L 13 = true := hall 13 (by decide)
  have l14 : L 14 = true := hall 14 (by decide)
  have l15 : L 15 = true := hall 15 (by decide)
  obtain ⟨kp1_12, zp1_12⟩ := f12 l12
  rw [l14] at zp1_12
  change AtA wf1 p1_12 (#[.int .u64 (iv (ofT wd a.tv)), .int .u64 (iv (ofT wd a.tm))]) 24 at zp1_12
  obtain ⟨kp1_13, zp1_13⟩ := f13 l13
  rw [l15] at zp1_13
  change AtA wf1 p1_13 (#[.int .u64 (iv (ofT wd b.tv)), .int .u64 (iv (ofT wd b.tm))]) 24 at zp1_13
  have np1_12_p1_13 := g12_13 l12 l13
  simp only [l0, l1, l2, l3, l4, l5, l6, l7, l8, l9, l10, l11, l12, l13, sel_t]
  have np_p1_12 : p ≠ p1_12 := Nat.ne_of_lt (Nat.lt_of_lt_of_le (HA).lt kp1_12)
  have np_p1_13 : p ≠ p1_13 := Nat.ne_of_lt (Nat.lt_of_lt_of_le (HA).lt kp1_13)
  have nq_p1_12 : q ≠ p1_12 := Nat.ne_of_lt (Nat.lt_of_lt_of_le (HB).lt kp1_12)
  have nq_p1_13 : q ≠ p1_13 := Nat.ne_of_lt (Nat.lt_of_lt_of_le (HB).lt kp1_13)
  have nPW_p1_12 : PW ≠ p1_12 := Nat.ne_of_lt (Nat.lt_of_lt_of_le (HW).lt kp1_12)
  have nPW_p1_13 : PW ≠ p1_13 := Nat.ne_of_lt (Nat.lt_of_lt_of_le (HW).lt kp1_13)
  have frp1_12 := Nat.le_trans (GrL.refl [p, q] w).size kp1_12
  have frp1_13 := Nat.le_trans (GrL.refl [p, q] w).size kp1_13
  have hp_c1 := (HA).grl hG1 n0
  have hq_c1 := (HB).grl hG1 n0
  have hPW_c1 := (HW).grl hG1 n0
  have hF_c1 := (GrL.refl [p, q] w).app hG1 (r0 )
  clear l0 l1 l2 l3 l4 l5 l6 l7 l8 l9 l10 l11 l12 l13 l14 l15 hall f12 f13 s14 s15 g12_13
  go_upto_region 2 with fail
  refine wp_region_inv (by kernel_rfl) (fun L ac wx =>  ac = ⟨(.pointer (some ⟨p, 0, none⟩) :: .pointer (some ⟨q, 0, none⟩) :: .pointer (some ⟨PW, 0, none⟩) :: undef :: undef :: sel (L 16) (.bool false) (.bool false) :: .pointer (some ⟨p1_12, 0, none⟩) :: .pointer (some ⟨p1_13, 0, none⟩) :: .pointer (some ⟨p, 0, none⟩) :: .pointer (some ⟨p, 0, none⟩) :: .pointer (some ⟨p, 0, none⟩) :: .agg #[.int .u64 (iv a.tv), .int .u64 (iv a.tm)] :: .bool wd :: .agg #[.int .u64 (iv (ofT wd a.tv)), .int .u64 (iv (ofT wd a.tm))] :: .pointer (some ⟨q, 0, none⟩) :: .pointer (some ⟨q, 0, none⟩) :: .pointer (some ⟨q, 0, none⟩) :: .agg #[.int .u64 (iv b.tv), .int .u64 (iv b.tm)] :: .bool wd :: .agg #[.int .u64 (iv (ofT wd b.tv)), .int .u64 (iv (ofT wd b.tm))] :: sel (L 0) (.pointer (some ⟨p, 0, none⟩)) (undef) :: sel (L 1) (.pointer (some ⟨p, 0, none⟩)) (undef) :: sel (L 2) (.pointer (some ⟨p, 0, none⟩)) (undef) :: sel (L 3) (.pointer (some ⟨p1_13, 0, none⟩)) (undef) :: sel (L 4) (.int .u64 (iv (ofT wd b.tv))) (undef) :: sel (L 5) (.agg #[.int .u64 (iv 0#64), .int .u64 (iv (~~~(ofT wd b.tv)))]) (undef) :: sel (L 6) (.bool false) (undef) :: sel (L 7) (.bool false) (undef) :: sel (L 8) (undef) (undef) :: sel (L 9) (undef) (undef) :: sel (L 10) (undef) (undef) :: sel (L 11) (undef) (undef) :: sel (L 12) (undef) (undef) :: sel (L 13) (undef) (undef) :: sel (L 14) (undef) (undef) :: sel (L 15) (.bool false) (undef) :: [] : List Value).toArray, []⟩ ∧ GrL [p] wf1 wx ∧ AtA wx p (sel (L 6) (bv { a with tv := Tn.mtV a.tv a.tm (0#64) (~~~(ofT wd b.tv)), tm := Tn.mtM a.tv a.tm (0#64) (~~~(ofT wd b.tv)) }) (bv a)) 30) (by kernel_rfl) ?h0 ?step ?fin
  case h0 => exact ⟨rfl, GrL.of (Gr.drew (Gr.refl _)), (hp_c1).drew⟩
  case step =>
   refine allOps_cons 0 ?_ ?_
   ·refine kF rfl ?_
    rintro L ac wx hL hd ⟨rfl, hG, Ap⟩
    refine wM (v := .pointer (some ⟨p, 0, none⟩)) rfl rfl ?_
    exact ⟨rfl, hG, Ap⟩
   refine allOps_cons 1 ?_ ?_
   ·refine kF rfl ?_
    rintro L ac wx hL hd ⟨rfl, hG, Ap⟩
    obtain ⟨e0, -⟩ := hd
    refine wp_nil (r := ⟨p, 0, none⟩) rfl (sel_of (e0 rfl)) ?_
    exact ⟨rfl, hG, Ap⟩
   refine allOps_cons 2 ?_ ?_
   ·refine kF rfl ?_
    rintro L ac wx hL hd ⟨rfl, hG, Ap⟩
    obtain ⟨e0, -⟩ := hd
    refine wp_fa0 rfl (sel_of (e0 rfl)) ?_
    exact ⟨rfl, hG, Ap⟩
   refine allOps_cons 3 ?_ ?_
   ·refine kF rfl ?_
    rintro L ac wx hL hd ⟨rfl, hG, Ap⟩
    refine wp_fT0 rfl rfl ?_
    exact ⟨rfl, hG, Ap⟩
   refine allOps_cons 4 ?_ ?_
   ·refine kF rfl ?_
    rintro L ac wx hL hd ⟨rfl, hG, Ap⟩
    obtain ⟨e0, -⟩ := hd
    have HL := (zp1_13).grl hG (n1 (Ne.symm np_p1_13))
    refine wp_ld_uint64 (v := .int .u64 (iv (ofT wd b.tv))) rfl (sel_of (e0 rfl)) (HL) rfl ?_
    exact ⟨rfl, hG, Ap⟩
   refine allOps_cons 5 ?_ ?_
   ·refine kF rfl ?_
    rintro L ac wx hL hd ⟨rfl, hG, Ap⟩
    obtain ⟨e0, -⟩ := hd
    refine wp_call1 rfl (sel_of (e0 rfl)) (by go_simp) ?_
    refine ((fun w => k_zeros (ofT wd b.tv) w) _).mono ?_
    rintro e w1 ⟨rfl, hg⟩
    refine ⟨_, rfl, ?_⟩
    exact ⟨rfl, hG.then hg, Ap.gr hg⟩
   refine allOps_cons 6 ?_ ?_
   ·refine kF rfl ?_
    rintro L ac wx hL hd ⟨rfl, hG, Ap⟩
    obtain ⟨e0, e1, e2, -⟩ := hd
    have HL := Ap; rw [hL] at HL
    refine wp_call2 rfl (sel_of (e0 rfl)) (sel_of (e1 rfl)) (by go_simp) ?_
    refine (k_know a (0#64) (~~~(ofT wd b.tv)) false h1 p _ HL).mono ?_
    rintro e w1 ⟨rfl, hn, hgx⟩
    refine ⟨_, rfl, ?_⟩
    exact ⟨rfl, hG.thenx hgx (.inl m1), hn⟩
   refine allOps_cons 7 ?_ ?_
   ·refine kF rfl ?_
    rintro L ac wx hL hd ⟨rfl, hG, Ap⟩
    obtain ⟨e0, e1, -⟩ := hd
    refine wM (v := .bool false) rfl (sel_of (e0 rfl)) ?_
    exact ⟨rfl, hG, Ap⟩
   refine allOps_cons 8 ?_ ?_
   ·refine keeps_no ?_
    rintro L ac wx hL hd ⟨rfl, hG, Ap⟩
    obtain ⟨e0, -⟩ := hd
    refine ⟨wanted_of (k := 7) (b := true) (c := false) rfl rfl rfl rfl (sel_of (e0 rfl)) rfl, ?_⟩
    exact ⟨rfl, hG, Ap⟩
   refine allOps_cons 9 ?_ ?_
   ·refine keeps_no ?_
    rintro L ac wx hL hd ⟨rfl, hG, Ap⟩
    obtain ⟨e0, e1, -⟩ := hd
    refine ⟨wanted_of (k := 7) (b := true) (c := false) rfl rfl rfl rfl (sel_of (e1 rfl)) rfl, ?_⟩
    exact ⟨rfl, hG, Ap⟩
   refine allOps_cons 10 ?_ ?_
   ·refine keeps_no ?_
    rintro L ac wx hL hd ⟨rfl, hG, Ap⟩
    obtain ⟨e0, e1, -⟩ := hd
    refine ⟨wanted_of (k := 7) (b := true) (c := false) rfl rfl rfl rfl (sel_of (e1 rfl)) rfl, ?_⟩
    exact ⟨rfl, hG, Ap⟩
   refine allOps_cons 11 ?_ ?_
   ·refine keeps_no ?_
    rintro L ac wx hL hd ⟨rfl, hG, Ap⟩
    obtain ⟨e0, -⟩ := hd
    refine ⟨wanted_of (k := 7) (b := true) (c := false) rfl rfl rfl rfl (sel_of (e0 rfl)) rfl, ?_⟩
    exact ⟨rfl, hG, Ap⟩
   refine allOps_cons 12 ?_ ?_
   ·refine keeps_no ?_
    rintro L ac wx hL hd ⟨rfl, hG, Ap⟩
    obtain ⟨e0, e1, -⟩ := hd
    refine ⟨wanted_of (k := 7) (b := true) (c := false) rfl rfl rfl rfl (sel_of (e1 rfl)) rfl, ?_⟩
    exact ⟨rfl, hG, Ap⟩
   refine allOps_cons 13 ?_ ?_
   ·refine keeps_no ?_
    rintro L ac wx hL hd ⟨rfl, hG, Ap⟩
    obtain ⟨e0, e1, e2, -⟩ := hd
    refine ⟨wanted_of (k := 7) (b := true) (c := false) rfl rfl rfl rfl (sel_of (e1 rfl)) rfl, ?_⟩
    exact ⟨rfl, hG, Ap⟩
   refine allOps_cons 14 ?_ ?_
   ·refine keeps_no ?_
    rintro L ac wx hL hd ⟨rfl, hG, Ap⟩
    obtain ⟨e0, e1, e2, e3, -⟩ := hd
    refine ⟨wanted_of (k := 7) (b := true) (c := false) rfl rfl rfl rfl (sel_of (e3 rfl)) rfl, ?_⟩
    exact ⟨rfl, hG, Ap⟩
   refine allOps_cons 15 ?_ ?_
   ·refine kF rfl ?_
    rintro L ac wx hL hd ⟨rfl, hG, Ap⟩
    obtain ⟨e0, e1, -⟩ := hd
    refine wp_pickF (v := .bool false) rfl (sel_of (e0 rfl)) rfl ?_
    exact ⟨rfl, hG, Ap⟩
   refine allOps_cons 16 ?_ ?_
   ·refine kF rfl ?_
    rintro L ac wx hL hd ⟨rfl, hG, Ap⟩
    obtain ⟨e0, e1, e2, e3, e4, e5, e6, e7, e8, e9, e10, e11, e12, e13, e14, e15, e16, e17, -⟩ := hd
    refine wA (v := .bool false) rfl (sel_of (e0 rfl)) ?_
    exact ⟨rfl, hG, Ap⟩
   exact allOps_nil 17
  case fin =>
   rintro L ac wf2 hall ⟨rfl, hG2, B2p⟩
   have l0 : L 0 = true := hall 0 (by decide)
   have l1 : L 1 = true := hall 1 (by decide)
   have l2 : L 2 = true := hall 2 (by decide)
   have l3 : L 3 = true := hall 3 (by decide)
   have l4 : L 4 = true := hall 4 (by decide)
   have l5 : L 5 = true := hall 5 (by decide)
   have l6 : L 6 = true := hall 6 (by decide)
   have l7 : L 7 = true := hall 7 (by decide)
   have l8 : L 8 = true := hall 8 (by decide)
   have l9 : L 9 = true := hall 9 (by decide)
   have l10 : L 10 = true := hall 10 (by decide)
   have l11 : L 11 = true := hall 11 (by decide)
   have l12 : L 12 = true := hall 12 (by decide)
   have l13 : L 13 = true := hall 13 (by decide)
   have l14 : L 14 = true := hall 14 (by decide)
   have l15 : L 15 = true := hall 15 (by decide)
   have l16 : L 16 = true := hall 16 (by decide)
   rw [l6] at B2p
   change AtA wf2 p (bv { a with tv := Tn.mtV a.tv a.tm (0#64) (~~~(ofT wd b.tv)), tm := Tn.mtM a.tv a.tm (0#64) (~~~(ofT wd b.tv)) }) 30 at B2p
   simp only [l0, l1, l2, l3, l4, l5, l6, l7, l8, l9, l10, l11, l12, l13, l14, l15, l16, sel_t]
   have hq_c2 := (hq_c1).grl hG2 (n1 (Ne.symm hpq))
   have hPW_c2 := (hPW_c1).grl hG2 (n1 (Ne.symm npPW))
   have hp1_12_c2 := (zp1_12).grl hG2 (n1 (Ne.symm np_p1_12))
   have hp1_13_c2 := (zp1_13).grl hG2 (n1 (Ne.symm np_p1_13))
   have hF_c2 := (hF_c1).app hG2 (r1 (.inl m21))
   clear l0 l1 l2 l3 l4 l5 l6 l7 l8 l9 l10 l11 l12 l13 l14 l15 l16 hall
   go_wp2
   go_ret
   exact ⟨rfl, hF_c2⟩
set_option maxHeartbeats 16000000 in
theorem clear_tn (wd : Bool) (a b : Bd) (p q : Nat) (w : World) (hpq : p ≠ q) (HA : AtA w p (bv a) 30) (HB : AtA w q (bv b) 30) (PW : Nat) (npPW : p ≠ PW) (nqPW : q ≠ PW) (HW : AtA w PW #[.bool wd] 4) (h1 : Tn.meetX a.tv a.tm 0#64 (~~~(ofT wd b.tv)) = true) (h2 : Tn.meetX b.tv b.tm 0#64 (~~~(ofT wd a.tv)) = false) : Calls Tryz.prog 238 #[.pointer (some ⟨p, 0, none⟩), .pointer (some ⟨q, 0, none⟩), .pointer (some ⟨PW, 0, none⟩)] w fun e w' => e = .returned (.bool false) ∧ GrL [p, q] w w' := by
 go_enter Tryz.func238, Tryz.ntmps238
 go_upto_region 0 with fail
 refine rG ?_
 refine sF rfl ?_
 refine wA (v := .bool false) rfl rfl ?_
 simp only [Act.put, zs, z0, z1]
 refine s_end ?_
 go_upto_region 1 with fail
 refine wp_region_inv (by kernel_rfl) (fun L ac wx => ∃ (p1_12 : Nat) (p1_13 : Nat), ac = ⟨(.pointer (some ⟨p, 0, none⟩) :: .pointer (some ⟨q, 0, none⟩) :: .pointer (some ⟨PW, 0, none⟩) :: undef :: undef :: .bool false :: sel (L 12) (.pointer (some ⟨p1_12, 0, none⟩)) (undef) :: sel (L 13) (.pointer (some ⟨p1_13, 0, none⟩)) (undef) :: sel (L 0) (.pointer (some ⟨p, 0, none⟩)) (undef) :: sel (L 1) (.pointer (some ⟨p, 0, none⟩)) (undef) :: sel (L 2) (.pointer (some ⟨p, 0, none⟩)) (undef) :: sel (L 3) (.agg #[.int .u64 (iv a.tv), .int .u64 (iv a.tm)]) (undef) :: sel (L 4) (.bool wd) (undef) :: sel (L 5) (.agg #[.int .u64 (iv (ofT wd a.tv)), .int .u64 (iv (ofT wd a.tm))]) (undef) :: sel (L 6) (.pointer (some ⟨q, 0, none⟩)) (undef) :: sel (L 7) (.pointer (some ⟨q, 0, none⟩)) (undef) :: sel (L 8) (.pointer (some ⟨q, 0, none⟩)) (undef) :: sel (L 9) (.agg #[.int .u64 (iv b.tv), .int .u64 (iv b.tm)]) (undef) :: sel (L 10) (.bool wd) (undef) :: sel (L 11) (.agg #[.int .u64 (iv (ofT wd b.tv)), .int .u64 (iv (ofT wd b.tm))]) (undef) :: undef :: undef :: undef :: undef :: undef :: undef :: undef :: undef :: undef :: undef :: undef :: undef :: undef :: undef :: undef :: undef :: [] : List Value).toArray, []⟩ ∧ GrL [] w wx ∧ (L 12 = true → w.heap.size ≤ p1_12 ∧ AtA wx p1_12 (sel (L 14) (#[.int .u64 (iv (ofT wd a.tv)), .int .u64 (iv (ofT wd a.tm))]) (#[.int .u64 0, .int .u64 0])) 24) ∧ (L 13 = true → w.heap.size ≤ p1_13 ∧ AtA wx p1_13 (sel (L 15) (#[.int .u64 (iv (ofT wd b.tv)), .int .u64 (iv (ofT wd b.tm))]) (#[.int .u64 0, .int .u64 0])) 24) ∧ (L 14 = true → L 12 = true) ∧ (L 15 = true → L 13 = true) ∧ (L 12 = true → L 13 = true → p1_12 ≠ p1_13)) (by kernel_rfl) ?h0 ?step ?fin
 case h0 => exact ⟨0, 0, rfl, GrL.of (Gr.drew (Gr.refl _)), (fun h => by cases h), (fun h => by cases h), (fun h => by cases h), (fun h => by cases h), (fun h => by cases h)⟩
 case step =>
  refine allOps_cons 0 ?_ ?_
  ·refine kF rfl ?_
   rintro L ac wx hL hd ⟨p1_12, p1_13, rfl, hG, f12, f13, s14, s15, g12_13⟩
   refine wM (v := .pointer (some ⟨p, 0, none⟩)) rfl rfl ?_
   exact ⟨p1_12, p1_13, rfl, hG, f12, f13, s14, s15, g12_13⟩
  refine allOps_cons 1 ?_ ?_
  ·refine kF rfl ?_
   rintro L ac wx hL hd ⟨p1_12, p1_13, rfl, hG, f12, f13, s14, s15, g12_13⟩
   obtain ⟨e0, -⟩ := hd
   refine wp_nil (r := ⟨p, 0, none⟩) rfl (sel_of (e0 rfl)) ?_
   exact ⟨p1_12, p1_13, rfl, hG, f12, f13, s14, s15, g12_13⟩
  refine allOps_cons 2 ?_ ?_
  ·refine kF rfl ?_
   rintro L ac wx hL hd ⟨p1_12, p1_13, rfl, hG, f12, f13, s14, s15, g12_13⟩
   obtain ⟨e0, -⟩ := hd
   refine wp_fa0 rfl (sel_of (e0 rfl)) ?_
   exact ⟨p1_12, p1_13, rfl, hG, f12, f13, s14, s15, g12_13⟩
  refine allOps_cons 3 ?_ ?_
  ·refine kF rfl ?_
   rintro L ac wx hL hd ⟨p1_12, p1_13, rfl, hG, f12, f13, s14, s15, g12_13⟩
   obtain ⟨e0, -⟩ := hd
   have HL := (HA).grl hG n0
   refine wp_pT (v0 := .int .u64 (iv a.tv)) (v1 := .int .u64 (iv a.tm)) rfl (sel_of (e0 rfl)) (HL) rfl rfl ?_
   exact ⟨p1_12, p1_13, rfl, hG, f12, f13, s14, s15, g12_13⟩
  refine allOps_cons 4 ?_ ?_
  ·refine kF rfl ?_
   rintro L ac wx hL hd ⟨p1_12, p1_13, rfl, hG, f12, f13, s14, s15, g12_13⟩
   have HL := (HW).grl hG n0
   refine wp_ld_bool (v := .bool wd) rfl rfl (HL) rfl ?_
   exact ⟨p1_12, p1_13, rfl, hG, f12, f13, s14, s15, g12_13⟩
  refine allOps_cons 5 ?_ ?_
  ·refine kF rfl ?_
   rintro L ac wx hL hd ⟨p1_12, p1_13, rfl, hG, f12, f13, s14, s15, g12_13⟩
   obtain ⟨e0, e1, -⟩ := hd
   refine wp_call2 rfl (sel_of (e0 rfl)) (sel_of (e1 rfl)) (by go_simp) ?_
   refine ((fun w => k_bitsOf wd a.tv a.tm w) _).mono ?_
   rintro e w1 ⟨rfl, hg⟩
   refine ⟨_, rfl, ?_⟩
   exact ⟨p1_12, p1_13, rfl, hG.then hg, fun h => ⟨(f12 h).1, (f12 h).2.gr hg⟩, fun h => ⟨(f13 h).1, (f13 h).2.gr hg⟩, s14, s15, g12_13⟩
  refine allOps_cons 6 ?_ ?_
  ·refine kF rfl ?_
   rintro L ac wx hL hd ⟨p1_12, p1_13, rfl, hG, f12, f13, s14, s15, g12_13⟩
   refine wM (v := .pointer (some ⟨q, 0, none⟩)) rfl rfl ?_
   exact ⟨p1_12, p1_13, rfl, hG, f12, f13, s14, s15, g12_13⟩
  refine allOps_cons 7 ?_ ?_
  ·refine kF rfl ?_
   rintro L ac wx hL hd ⟨p1_12, p1_13, rfl, hG, f12, f13, s14, s15, g12_13⟩
   obtain ⟨e0, -⟩ := hd
   refine wp_nil (r := ⟨q, 0, none⟩) rfl (sel_of (e0 rfl)) ?_
   exact ⟨p1_12, p1_13, rfl, hG, f12, f13, s14, s15, g12_13⟩
  refine allOps_cons 8 ?_ ?_
  ·refine kF rfl ?_
   rintro L ac wx hL hd ⟨p1_12, p1_13, rfl, hG, f12, f13, s14, s15, g12_13⟩
   obtain ⟨e0, -⟩ := hd
   refine wp_fa0 rfl (sel_of (e0 rfl)) ?_
   exact ⟨p1_12, p1_13, rfl, hG, f12, f13, s14, s15, g12_13⟩
  refine allOps_cons 9 ?_ ?_
  ·refine kF rfl ?_
   rintro L ac wx hL hd ⟨p1_12, p1_13, rfl, hG, f12, f13, s14, s15, g12_13⟩
   obtain ⟨e0, -⟩ := hd
   have HL := (HB).grl hG n0
   refine wp_pT (v0 := .int .u64 (iv b.tv)) (v1 := .int .u64 (iv b.tm)) rfl (sel_of (e0 rfl)) (HL) rfl rfl ?_
   exact ⟨p1_12, p1_13, rfl, hG, f12, f13, s14, s15, g12_13⟩
  refine allOps_cons 10 ?_ ?_
  ·refine kF rfl ?_
   rintro L ac wx hL hd ⟨p1_12, p1_13, rfl, hG, f12, f13, s14, s15, g12_13⟩
   have HL := (HW).grl hG n0
   refine wp_ld_bool (v := .bool wd) rfl rfl (HL) rfl ?_
   exact ⟨p1_12, p1_13, rfl, hG, f12, f13, s14, s15, g12_13⟩
  refine allOps_cons 11 ?_ ?_
  ·refine kF rfl ?_
   rintro L ac wx hL hd ⟨p1_12, p1_13, rfl, hG, f12, f13, s14, s15, g12_13⟩
   obtain ⟨e0, e1, e2, -⟩ := hd
   refine wp_call2 rfl (sel_of (e0 rfl)) (sel_of (e1 rfl)) (by go_simp) ?_
   refine ((fun w => k_bitsOf wd b.tv b.tm w) _).mono ?_
   rintro e w1 ⟨rfl, hg⟩
   refine ⟨_, rfl, ?_⟩
   exact ⟨p1_12, p1_13, rfl, hG.then hg, fun h => ⟨(f12 h).1, (f12 h).2.gr hg⟩, fun h => ⟨(f13 h).1, (f13 h).2.gr hg⟩, s14, s15, g12_13⟩
  refine allOps_cons 12 ?_ ?_
  ·refine kF rfl ?_
   rintro L ac wx hL hd ⟨p1_12, p1_13, rfl, hG, f12, f13, s14, s15, g12_13⟩
   have ls : L 14 = false := by
    cases h : L 14 with
    | false => rfl
    | true => have := s14 h; rw [hL] at this; cases this
   refine wp_allocT rfl ?_
   intro w1 hn hg
   exact ⟨wx.heap.size, p1_13, rfl, hG.then hg, fun _ => ⟨hG.size, by rw [show upd L 12 14 = false from ls]; exact hn⟩, fun h => ⟨(f13 h).1, (f13 h).2.gr hg⟩, fun _ => rfl, s15, fun _ h => by have z := (f13 h).2.lt; omega⟩
  refine allOps_cons 13 ?_ ?_
  ·refine kF rfl ?_
   rintro L ac wx hL hd ⟨p1_12, p1_13, rfl, hG, f12, f13, s14, s15, g12_13⟩
   have ls : L 15 = false := by
    cases h : L 15 with
    | false => rfl
    | true => have := s15 h; rw [hL] at this; cases this
   refine wp_allocT rfl ?_
   intro w1 hn hg
   exact ⟨p1_12, wx.heap.size, rfl, hG.then hg, fun h => ⟨(f12 h).1, (f12 h).2.gr hg⟩, fun _ => ⟨hG.size, by rw [show upd L 13 15 = false from ls]; exact hn⟩, s14, fun _ => rfl, fun h _ => by have z := (f12 h).2.lt; omega⟩
  refine allOps_cons 14 ?_ ?_
  ·refine kF rfl ?_
   rintro L ac wx hL hd ⟨p1_12, p1_13, rfl, hG, f12, f13, s14, s15, g12_13⟩
   obtain ⟨e0, e1, e2, e3, e4, e5, e6, e7, e8, e9, e10, e11, e12, e13, e14, e15, e16, -⟩ := hd
   have lp : L 12 = true := e0 rfl
   obtain ⟨k12, z12⟩ := f12 lp
   have HL := z12; rw [hL] at HL
   refine wp_storeT rfl (sel_of (e0 rfl)) (sel_of (e1 rfl)) HL ?_
   intro w1 hn hgx
   exact ⟨p1_12, p1_13, rfl, hG.thenx hgx (.inr k12), fun _ => ⟨k12, hn⟩, fun h => ⟨(f13 h).1, (f13 h).2.grx hgx (Ne.symm (g12_13 lp h))⟩, fun _ => lp, s15, g12_13⟩
  refine allOps_cons 15 ?_ ?_
  ·refine kF rfl ?_
   rintro L ac wx hL hd ⟨p1_12, p1_13, rfl, hG, f12, f13, s14, s15, g12_13⟩
   obtain ⟨e0, e1, e2, e3, e4, e5, e6, e7, e8, e9, e10, e11, e12, e13, e14, e15, e16, e17, -⟩ := hd
   have lp : L 13 = true := e0 rfl
   obtain ⟨k13, z13⟩ := f13 lp
   have HL := z13; rw [hL] at HL
   refine wp_storeT rfl (sel_of (e0 rfl)) (sel_of (e1 rfl)) HL ?_
   intro w1 hn hgx
   exact ⟨p1_12, p1_13, rfl, hG.thenx hgx (.inr k13), fun h => ⟨(f12 h).1, (f12 h).2.grx hgx (g12_13 h lp)⟩, fun _ => ⟨k13, hn⟩, s14, fun _ => lp, g12_13⟩
  exact allOps_nil 16
 case fin =>
  rintro L ac wf1 hall ⟨p1_12, p1_13, rfl, hG1, f12, f13, s14, s15, g12_13⟩
  have l0 : L 0 = true := hall 0 (by decide)
  have l1 : L 1 = true := hall 1 (by decide)
  have l2 : L 2 = true := hall 2 (by decide)
  have l3 : L 3 = true := hall 3 (by decide)
  have l4 : L 4 = true := hall 4 (by decide)
  have l5 : L 5 = true := hall 5 (by decide)
  have l6 : L 6 = true := hall 6 (by decide)
  have l7 : L 7 = true := hall 7 (by decide)
  have l8 : L 8 = true := hall 8 (by decide)
  have l9 : L 9 = true := hall 9 (by decide)
  have l10 : L 10 = true := hall 10 (by decide)
  have l11 : L 11 = true := hall 11 (by decide)
  have l12 : L 12 = true := hall 12 (by decide)
  have l13 : L 13 = true := hall 13 (by decide)
  have l14 : L 14 = true := hall 14 (by decide)
  have l15 : L 15 = true := hall 15 (by decide)
  obtain ⟨kp1_12, zp1_12⟩ := f12 l12
  rw [l14] at zp1_12
  change AtA wf1 p1_12 (#[.int .u64 (iv (ofT wd a.tv)), .int .u64 (iv (ofT wd a.tm))]) 24 at zp1_12
  obtain ⟨kp1_13, zp1_13⟩ := f13 l13
  rw [l15] at zp1_13
  change AtA wf1 p1_13 (#[.int .u64 (iv (ofT wd b.tv)), .int .u64 (iv (ofT wd b.tm))]) 24 at zp1_13
  have np1_12_p1_13 := g12_13 l12 l13
  simp only [l0, l1, l2, l3, l4, l5, l6, l7, l8, l9, l10, l11, l12, l13, sel_t]
  have np_p1_12 : p ≠ p1_12 := Nat.ne_of_lt (Nat.lt_of_lt_of_le (HA).lt kp1_12)
  have np_p1_13 : p ≠ p1_13 := Nat.ne_of_lt (Nat.lt_of_lt_of_le (HA).lt kp1_13)
  have nq_p1_12 : q ≠ p1_12 := Nat.ne_of_lt (Nat.lt_of_lt_of_le (HB).lt kp1_12)
  have nq_p1_13 : q ≠ p1_13 := Nat.ne_of_lt (Nat.lt_of_lt_of_le (HB).lt kp1_13)
  have nPW_p1_12 : PW ≠ p1_12 := Nat.ne_of_lt (Nat.lt_of_lt_of_le (HW).lt kp1_12)
  have nPW_p1_13 : PW ≠ p1_13 := Nat.ne_of_lt (Nat.lt_of_lt_of_le (HW).lt kp1_13)
  have frp1_12 := Nat.le_trans (GrL.refl [p, q] w).size kp1_12
  have frp1_13 := Nat.le_trans (GrL.refl [p, q] w).size kp1_13
  have hp_c1 := (HA).grl hG1 n0
  have hq_c1 := (HB).grl hG1 n0
  have hPW_c1 := (HW).grl hG1 n0
  have hF_c1 := (GrL.refl [p, q] w).app hG1 (r0 )
  clear l0 l1 l2 l3 l4 l5 l6 l7 l8 l9 l10 l11 l12 l13 l14 l15 hall f12 f13 s14 s15 g12_13
  go_upto_region 2 with fail
  refine wp_region_inv (by kernel_rfl) (fun L ac wx =>  ac = ⟨(.pointer (some ⟨p, 0, none⟩) :: .pointer (some ⟨q, 0, none⟩) :: .pointer (some ⟨PW, 0, none⟩) :: undef :: undef :: sel (L 16) (.bool false) (.bool false) :: .pointer (some ⟨p1_12, 0, none⟩) :: .pointer (some ⟨p1_13, 0, none⟩) :: .pointer (some ⟨p, 0, none⟩) :: .pointer (some ⟨p, 0, none⟩) :: .pointer (some ⟨p, 0, none⟩) :: .agg #[.int .u64 (iv a.tv), .int .u64 (iv a.tm)] :: .bool wd :: .agg #[.int .u64 (iv (ofT wd a.tv)), .int .u64 (iv (ofT wd a.tm))] :: .pointer (some ⟨q, 0, none⟩) :: .pointer (some ⟨q, 0, none⟩) :: .pointer (some ⟨q, 0, none⟩) :: .agg #[.int .u64 (iv b.tv), .int .u64 (iv b.tm)] :: .bool wd :: .agg #[.int .u64 (iv (ofT wd b.tv)), .int .u64 (iv (ofT wd b.tm))] :: sel (L 0) (.pointer (some ⟨p, 0, none⟩)) (undef) :: sel (L 1) (.pointer (some ⟨p, 0, none⟩)) (undef) :: sel (L 2) (.pointer (some ⟨p, 0, none⟩)) (undef) :: sel (L 3) (.pointer (some ⟨p1_13, 0, none⟩)) (undef) :: sel (L 4) (.int .u64 (iv (ofT wd b.tv))) (undef) :: sel (L 5) (.agg #[.int .u64 (iv 0#64), .int .u64 (iv (~~~(ofT wd b.tv)))]) (undef) :: sel (L 6) (.bool true) (undef) :: sel (L 7) (.bool true) (undef) :: sel (L 8) (.pointer (some ⟨q, 0, none⟩)) (undef) :: sel (L 9) (.pointer (some ⟨q, 0, none⟩)) (undef) :: sel (L 10) (.pointer (some ⟨q, 0, none⟩)) (undef) :: sel (L 11) (.pointer (some ⟨p1_12, 0, none⟩)) (undef) :: sel (L 12) (.int .u64 (iv (ofT wd a.tv))) (undef) :: sel (L 13) (.agg #[.int .u64 (iv 0#64), .int .u64 (iv (~~~(ofT wd a.tv)))]) (undef) :: sel (L 14) (.bool false) (undef) :: sel (L 15) (.bool false) (undef) :: [] : List Value).toArray, []⟩ ∧ GrL [p, q] wf1 wx ∧ AtA wx p (sel (L 6) (bv { a with tv := Tn.mtV a.tv a.tm (0#64) (~~~(ofT wd b.tv)), tm := Tn.mtM a.tv a.tm (0#64) (~~~(ofT wd b.tv)) }) (bv a)) 30 ∧ AtA wx q (sel (L 14) (bv { b with tv := Tn.mtV b.tv b.tm (0#64) (~~~(ofT wd a.tv)), tm := Tn.mtM b.tv b.tm (0#64) (~~~(ofT wd a.tv)) }) (bv b)) 30) (by kernel_rfl) ?h0 ?step ?fin
  case h0 => exact ⟨rfl, GrL.of (Gr.drew (Gr.refl _)), (hp_c1).drew, (hq_c1).drew⟩
  case step =>
   refine allOps_cons 0 ?_ ?_
   ·refine kF rfl ?_
    rintro L ac wx hL hd ⟨rfl, hG, Ap, Aq⟩
    refine wM (v := .pointer (some ⟨p, 0, none⟩)) rfl rfl ?_
    exact ⟨rfl, hG, Ap, Aq⟩
   refine allOps_cons 1 ?_ ?_
   ·refine kF rfl ?_
    rintro L ac wx hL hd ⟨rfl, hG, Ap, Aq⟩
    obtain ⟨e0, -⟩ := hd
    refine wp_nil (r := ⟨p, 0, none⟩) rfl (sel_of (e0 rfl)) ?_
    exact ⟨rfl, hG, Ap, Aq⟩
   refine allOps_cons 2 ?_ ?_
   ·refine kF rfl ?_
    rintro L ac wx hL hd ⟨rfl, hG, Ap, Aq⟩
    obtain ⟨e0, -⟩ := hd
    refine wp_fa0 rfl (sel_of (e0 rfl)) ?_
    exact ⟨rfl, hG, Ap, Aq⟩
   refine allOps_cons 3 ?_ ?_
   ·refine kF rfl ?_
    rintro L ac wx hL hd ⟨rfl, hG, Ap, Aq⟩
    refine wp_fT0 rfl rfl ?_
    exact ⟨rfl, hG, Ap, Aq⟩
   refine allOps_cons 4 ?_ ?_
   ·refine kF rfl ?_
    rintro L ac wx hL hd ⟨rfl, hG, Ap, Aq⟩
    obtain ⟨e0, -⟩ := hd
    have HL := (zp1_13).grl hG (n2 (Ne.symm np_p1_13) (Ne.symm nq_p1_13))
    refine wp_ld_uint64 (v := .int .u64 (iv (ofT wd b.tv))) rfl (sel_of (e0 rfl)) (HL) rfl ?_
    exact ⟨rfl, hG, Ap, Aq⟩
   refine allOps_cons 5 ?_ ?_
   ·refine kF rfl ?_
    rintro L ac wx hL hd ⟨rfl, hG, Ap, Aq⟩
    obtain ⟨e0, -⟩ := hd
    refine wp_call1 rfl (sel_of (e0 rfl)) (by go_simp) ?_
    refine ((fun w => k_zeros (ofT wd b.tv) w) _).mono ?_
    rintro e w1 ⟨rfl, hg⟩
    refine ⟨_, rfl, ?_⟩
    exact ⟨rfl, hG.then hg, Ap.gr hg, Aq.gr hg⟩
   refine allOps_cons 6 ?_ ?_
   ·refine kF rfl ?_
    rintro L ac wx hL hd ⟨rfl, hG, Ap, Aq⟩
    obtain ⟨e0, e1, e2, -⟩ := hd
    have HL := Ap; rw [hL] at HL
    refine wp_call2 rfl (sel_of (e0 rfl)) (sel_of (e1 rfl)) (by go_simp) ?_
    refine (k_know a (0#64) (~~~(ofT wd b.tv)) true h1 p _ HL).mono ?_
    rintro e w1 ⟨rfl, hn, hgx⟩
    refine ⟨_, rfl, ?_⟩
    exact ⟨rfl, hG.thenx hgx (.inl m21), hn, Aq.grx hgx (Ne.symm hpq)⟩
   refine allOps_cons 7 ?_ ?_
   ·refine kF rfl ?_
    rintro L ac wx hL hd ⟨rfl, hG, Ap, Aq⟩
    obtain ⟨e0, e1, -⟩ := hd
    refine wM (v := .bool true) rfl (sel_of (e0 rfl)) ?_
    exact ⟨rfl, hG, Ap, Aq⟩
   refine allOps_cons 8 ?_ ?_
   ·refine keeps_yes ?_
    rintro L ac wx hL hd ⟨rfl, hG, Ap, Aq⟩
    obtain ⟨e0, -⟩ := hd
    refine ⟨wanted_of (k := 7) (b := true) (c := true) rfl rfl rfl rfl (sel_of (e0 rfl)) rfl, ?_⟩
    refine wM (v := .pointer (some ⟨q, 0, none⟩)) rfl rfl ?_
    exact ⟨rfl, hG, Ap, Aq⟩
   refine allOps_cons 9 ?_ ?_
   ·refine keeps_yes ?_
    rintro L ac wx hL hd ⟨rfl, hG, Ap, Aq⟩
    obtain ⟨e0, e1, -⟩ := hd
    refine ⟨wanted_of (k := 7) (b := true) (c := true) rfl rfl rfl rfl (sel_of (e1 rfl)) rfl, ?_⟩
    refine wp_nil (r := ⟨q, 0, none⟩) rfl (sel_of (e0 rfl)) ?_
    exact ⟨rfl, hG, Ap, Aq⟩
   refine allOps_cons 10 ?_ ?_
   ·refine keeps_yes ?_
    rintro L ac wx hL hd ⟨rfl, hG, Ap, Aq⟩
    obtain ⟨e0, e1, -⟩ := hd
    refine ⟨wanted_of (k := 7) (b := true) (c := true) rfl rfl rfl rfl (sel_of (e1 rfl)) rfl, ?_⟩
    refine wp_fa0 rfl (sel_of (e0 rfl)) ?_
    exact ⟨rfl, hG, Ap, Aq⟩
   refine allOps_cons 11 ?_ ?_
   ·refine keeps_yes ?_
    rintro L ac wx hL hd ⟨rfl, hG, Ap, Aq⟩
    obtain ⟨e0, -⟩ := hd
    refine ⟨wanted_of (k := 7) (b := true) (c := true) rfl rfl rfl rfl (sel_of (e0 rfl)) rfl, ?_⟩
    refine wp_fT0 rfl rfl ?_
    exact ⟨rfl, hG, Ap, Aq⟩
   refine allOps_cons 12 ?_ ?_
   ·refine keeps_yes ?_
    rintro L ac wx hL hd ⟨rfl, hG, Ap, Aq⟩
    obtain ⟨e0, e1, -⟩ := hd
    refine ⟨wanted_of (k := 7) (b := true) (c := true) rfl rfl rfl rfl (sel_of (e1 rfl)) rfl, ?_⟩
    have HL := (zp1_12).grl hG (n2 (Ne.symm np_p1_12) (Ne.symm nq_p1_12))
    refine wp_ld_uint64 (v := .int .u64 (iv (ofT wd a.tv))) rfl (sel_of (e0 rfl)) (HL) rfl ?_
    exact ⟨rfl, hG, Ap, Aq⟩
   refine allOps_cons 13 ?_ ?_
   ·refine keeps_yes ?_
    rintro L ac wx hL hd ⟨rfl, hG, Ap, Aq⟩
    obtain ⟨e0, e1, e2, -⟩ := hd
    refine ⟨wanted_of (k := 7) (b := true) (c := true) rfl rfl rfl rfl (sel_of (e1 rfl)) rfl, ?_⟩
    refine wp_call1 rfl (sel_of (e0 rfl)) (by go_simp) ?_
    refine ((fun w => k_zeros (ofT wd a.tv) w) _).mono ?_
    rintro e w1 ⟨rfl, hg⟩
    refine ⟨_, rfl, ?_⟩
    exact ⟨rfl, hG.then hg, Ap.gr hg, Aq.gr hg⟩
   refine allOps_cons 14 ?_ ?_
   ·refine keeps_yes ?_
    rintro L ac wx hL hd ⟨rfl, hG, Ap, Aq⟩
    obtain ⟨e0, e1, e2, e3, -⟩ := hd
    refine ⟨wanted_of (k := 7) (b := true) (c := true) rfl rfl rfl rfl (sel_of (e3 rfl)) rfl, ?_⟩
    have HL := Aq; rw [hL] at HL
    refine wp_call2 rfl (sel_of (e0 rfl)) (sel_of (e1 rfl)) (by go_simp) ?_
    refine (k_know b (0#64) (~~~(ofT wd a.tv)) false h2 q _ HL).mono ?_
    rintro e w1 ⟨rfl, hn, hgx⟩
    refine ⟨_, rfl, ?_⟩
    exact ⟨rfl, hG.thenx hgx (.inl m22), Ap.grx hgx hpq, hn⟩
   refine allOps_cons 15 ?_ ?_
   ·refine kF rfl ?_
    rintro L ac wx hL hd ⟨rfl, hG, Ap, Aq⟩
    obtain ⟨e0, e1, -⟩ := hd
    refine wp_pickT (v := .bool false) rfl (sel_of (e0 rfl)) (sel_of (e1 rfl)) ?_
    exact ⟨rfl, hG, Ap, Aq⟩
   refine allOps_cons 16 ?_ ?_
   ·refine kF rfl ?_
    rintro L ac wx hL hd ⟨rfl, hG, Ap, Aq⟩
    obtain ⟨e0, e1, e2, e3, e4, e5, e6, e7, e8, e9, e10, e11, e12, e13, e14, e15, e16, e17, -⟩ := hd
    refine wA (v := .bool false) rfl (sel_of (e0 rfl)) ?_
    exact ⟨rfl, hG, Ap, Aq⟩
   exact allOps_nil 17
  case fin =>
   rintro L ac wf2 hall ⟨rfl, hG2, B2p, B2q⟩
   have l0 : L 0 = true := hall 0 (by decide)
   have l1 : L 1 = true := hall 1 (by decide)
   have l2 : L 2 = true := hall 2 (by decide)
   have l3 : L 3 = true := hall 3 (by decide)
   have l4 : L 4 = true := hall 4 (by decide)
   have l5 : L 5 = true := hall 5 (by decide)
   have l6 : L 6 = true := hall 6 (by decide)
   have l7 : L 7 = true := hall 7 (by decide)
   have l8 : L 8 = true := hall 8 (by decide)
   have l9 : L 9 = true := hall 9 (by decide)
   have l10 : L 10 = true := hall 10 (by decide)
   have l11 : L 11 = true := hall 11 (by decide)
   have l12 : L 12 = true := hall 12 (by decide)
   have l13 : L 13 = true := hall 13 (by decide)
   have l14 : L 14 = true := hall 14 (by decide)
   have l15 : L 15 = true := hall 15 (by decide)
   have l16 : L 16 = true := hall 16 (by decide)
   rw [l6] at B2p
   change AtA wf2 p (bv { a with tv := Tn.mtV a.tv a.tm (0#64) (~~~(ofT wd b.tv)), tm := Tn.mtM a.tv a.tm (0#64) (~~~(ofT wd b.tv)) }) 30 at B2p
   rw [l14] at B2q
   change AtA wf2 q (bv { b with tv := Tn.mtV b.tv b.tm (0#64) (~~~(ofT wd a.tv)), tm := Tn.mtM b.tv b.tm (0#64) (~~~(ofT wd a.tv)) }) 30 at B2q
   simp only [l0, l1, l2, l3, l4, l5, l6, l7, l8, l9, l10, l11, l12, l13, l14, l15, l16, sel_t]
   have hPW_c2 := (hPW_c1).grl hG2 (n2 (Ne.symm npPW) (Ne.symm nqPW))
   have hp1_12_c2 := (zp1_12).grl hG2 (n2 (Ne.symm np_p1_12) (Ne.symm nq_p1_12))
   have hp1_13_c2 := (zp1_13).grl hG2 (n2 (Ne.symm np_p1_13) (Ne.symm nq_p1_13))
   have hF_c2 := (hF_c1).app hG2 (r2 (.inl m21) (.inl m22))
   clear l0 l1 l2 l3 l4 l5 l6 l7 l8 l9 l10 l11 l12 l13 l14 l15 l16 hall
   go_wp2
   go_ret
   exact ⟨rfl, hF_c2⟩
set_option maxHeartbeats 16000000 in
theorem clear_tt (wd : Bool) (a b : Bd) (p q : Nat) (w : World) (hpq : p ≠ q) (HA : AtA w p (bv a) 30) (HB : AtA w q (bv b) 30) (PW : Nat) (npPW : p ≠ PW) (nqPW : q ≠ PW) (HW : AtA w PW #[.bool wd] 4) (h1 : Tn.meetX a.tv a.tm 0#64 (~~~(ofT wd b.tv)) = true) (h2 : Tn.meetX b.tv b.tm 0#64 (~~~(ofT wd a.tv)) = true) : Calls Tryz.prog 238 #[.pointer (some ⟨p, 0, none⟩), .pointer (some ⟨q, 0, none⟩), .pointer (some ⟨PW, 0, none⟩)] w fun e w' => e = .returned (.bool true) ∧ AtA w' p (bv { a with tv := Tn.mtV a.tv a.tm 0#64 (~~~(ofT wd b.tv)), tm := Tn.mtM a.tv a.tm 0#64 (~~~(ofT wd b.tv)) }) 30 ∧ AtA w' q (bv { b with tv := Tn.mtV b.tv b.tm 0#64 (~~~(ofT wd a.tv)), tm := Tn.mtM b.tv b.tm 0#64 (~~~(ofT wd a.tv)) }) 30 ∧ GrL [p, q] w w' := by
 go_enter Tryz.func238, Tryz.ntmps238
 go_upto_region 0 with fail
 refine rG ?_
 refine sF rfl ?_
 refine wA (v := .bool false) rfl rfl ?_
 simp only [Act.put, zs, z0, z1]
 refine s_end ?_
 go_upto_region 1 with fail
 refine wp_region_inv (by kernel_rfl) (fun L ac wx => ∃ (p1_12 : Nat) (p1_13 : Nat), ac = ⟨(.pointer (some ⟨p, 0, none⟩) :: .pointer (some ⟨q, 0, none⟩) :: .pointer (some ⟨PW, 0, none⟩) :: undef :: undef :: .bool false :: sel (L 12) (.pointer (some ⟨p1_12, 0, none⟩)) (undef) :: sel (L 13) (.pointer (some ⟨p1_13, 0, none⟩)) (undef) :: sel (L 0) (.pointer (some ⟨p, 0, none⟩)) (undef) :: sel (L 1) (.pointer (some ⟨p, 0, none⟩)) (undef) :: sel (L 2) (.pointer (some ⟨p, 0, none⟩)) (undef) :: sel (L 3) (.agg #[.int .u64 (iv a.tv), .int .u64 (iv a.tm)]) (undef) :: sel (L 4) (.bool wd) (undef) :: sel (L 5) (.agg #[.int .u64 (iv (ofT wd a.tv)), .int .u64 (iv (ofT wd a.tm))]) (undef) :: sel (L 6) (.pointer (some ⟨q, 0, none⟩)) (undef) :: sel (L 7) (.pointer (some ⟨q, 0, none⟩)) (undef) :: sel (L 8) (.pointer (some ⟨q, 0, none⟩)) (undef) :: sel (L 9) (.agg #[.int .u64 (iv b.tv), .int .u64 (iv b.tm)]) (undef) :: sel (L 10) (.bool wd) (undef) :: sel (L 11) (.agg #[.int .u64 (iv (ofT wd b.tv)), .int .u64 (iv (ofT wd b.tm))]) (undef) :: undef :: undef :: undef :: undef :: undef :: undef :: undef :: undef :: undef :: undef :: undef :: undef :: undef :: undef :: undef :: undef :: [] : List Value).toArray, []⟩ ∧ GrL [] w wx ∧ (L 12 = true → w.heap.size ≤ p1_12 ∧ AtA wx p1_12 (sel (L 14) (#[.int .u64 (iv (ofT wd a.tv)), .int .u64 (iv (ofT wd a.tm))]) (#[.int .u64 0, .int .u64 0])) 24) ∧ (L 13 = true → w.heap.size ≤ p1_13 ∧ AtA wx p1_13 (sel (L 15) (#[.int .u64 (iv (ofT wd b.tv)), .int .u64 (iv (ofT wd b.tm))]) (#[.int .u64 0, .int .u64 0])) 24) ∧ (L 14 = true → L 12 = true) ∧ (L 15 = true → L 13 = true) ∧ (L 12 = true → L 13 = true → p1_12 ≠ p1_13)) (by kernel_rfl) ?h0 ?step ?fin
 case h0 => exact ⟨0, 0, rfl, GrL.of (Gr.drew (Gr.refl _)), (fun h => by cases h), (fun h => by cases h), (fun h => by cases h), (fun h => by cases h), (fun h => by cases h)⟩
 case step =>
  refine allOps_cons 0 ?_ ?_
  ·refine kF rfl ?_
   rintro L ac wx hL hd ⟨p1_12, p1_13, rfl, hG, f12, f13, s14, s15, g12_13⟩
   refine wM (v := .pointer (some ⟨p, 0, none⟩)) rfl rfl ?_
   exact ⟨p1_12, p1_13, rfl, hG, f12, f13, s14, s15, g12_13⟩
  refine allOps_cons 1 ?_ ?_
  ·refine kF rfl ?_
   rintro L ac wx hL hd ⟨p1_12, p1_13, rfl, hG, f12, f13, s14, s15, g12_13⟩
   obtain ⟨e0, -⟩ := hd
   refine wp_nil (r := ⟨p, 0, none⟩) rfl (sel_of (e0 rfl)) ?_
   exact ⟨p1_12, p1_13, rfl, hG, f12, f13, s14, s15, g12_13⟩
  refine allOps_cons 2 ?_ ?_
  ·refine kF rfl ?_
   rintro L ac wx hL hd ⟨p1_12, p1_13, rfl, hG, f12, f13, s14, s15, g12_13⟩
   obtain ⟨e0, -⟩ := hd
   refine wp_fa0 rfl (sel_of (e0 rfl)) ?_
   exact ⟨p1_12, p1_13, rfl, hG, f12, f13, s14, s15, g12_13⟩
  refine allOps_cons 3 ?_ ?_
  ·refine kF rfl ?_
   rintro L ac wx hL hd ⟨p1_12, p1_13, rfl, hG, f12, f13, s14, s15, g12_13⟩
   obtain ⟨e0, -⟩ := hd
   have HL := (HA).grl hG n0
   refine wp_pT (v0 := .int .u64 (iv a.tv)) (v1 := .int .u64 (iv a.tm)) rfl (sel_of (e0 rfl)) (HL) rfl rfl ?_
   exact ⟨p1_12, p1_13, rfl, hG, f12, f13, s14, s15, g12_13⟩
  refine allOps_cons 4 ?_ ?_
  ·refine kF rfl ?_
   rintro L ac wx hL hd ⟨p1_12, p1_13, rfl, hG, f12, f13, s14, s15, g12_13⟩
   have HL := (HW).grl hG n0
   refine wp_ld_bool (v := .bool wd) rfl rfl (HL) rfl ?_
   exact ⟨p1_12, p1_13, rfl, hG, f12, f13, s14, s15, g12_13⟩
  refine allOps_cons 5 ?_ ?_
  ·refine kF rfl ?_
   rintro L ac wx hL hd ⟨p1_12, p1_13, rfl, hG, f12, f13, s14, s15, g12_13⟩
   obtain ⟨e0, e1, -⟩ := hd
   refine wp_call2 rfl (sel_of (e0 rfl)) (sel_of (e1 rfl)) (by go_simp) ?_
   refine ((fun w => k_bitsOf wd a.tv a.tm w) _).mono ?_
   rintro e w1 ⟨rfl, hg⟩
   refine ⟨_, rfl, ?_⟩
   exact ⟨p1_12, p1_13, rfl, hG.then hg, fun h => ⟨(f12 h).1, (f12 h).2.gr hg⟩, fun h => ⟨(f13 h).1, (f13 h).2.gr hg⟩, s14, s15, g12_13⟩
  refine allOps_cons 6 ?_ ?_
  ·refine kF rfl ?_
   rintro L ac wx hL hd ⟨p1_12, p1_13, rfl, hG, f12, f13, s14, s15, g12_13⟩
   refine wM (v := .pointer (some ⟨q, 0, none⟩)) rfl rfl ?_
   exact ⟨p1_12, p1_13, rfl, hG, f12, f13, s14, s15, g12_13⟩
  refine allOps_cons 7 ?_ ?_
  ·refine kF rfl ?_
   rintro L ac wx hL hd ⟨p1_12, p1_13, rfl, hG, f12, f13, s14, s15, g12_13⟩
   obtain ⟨e0, -⟩ := hd
   refine wp_nil (r := ⟨q, 0, none⟩) rfl (sel_of (e0 rfl)) ?_
   exact ⟨p1_12, p1_13, rfl, hG, f12, f13, s14, s15, g12_13⟩
  refine allOps_cons 8 ?_ ?_
  ·refine kF rfl ?_
   rintro L ac wx hL hd ⟨p1_12, p1_13, rfl, hG, f12, f13, s14, s15, g12_13⟩
   obtain ⟨e0, -⟩ := hd
   refine wp_fa0 rfl (sel_of (e0 rfl)) ?_
   exact ⟨p1_12, p1_13, rfl, hG, f12, f13, s14, s15, g12_13⟩
  refine allOps_cons 9 ?_ ?_
  ·refine kF rfl ?_
   rintro L ac wx hL hd ⟨p1_12, p1_13, rfl, hG, f12, f13, s14, s15, g12_13⟩
   obtain ⟨e0, -⟩ := hd
   have HL := (HB).grl hG n0
   refine wp_pT (v0 := .int .u64 (iv b.tv)) (v1 := .int .u64 (iv b.tm)) rfl (sel_of (e0 rfl)) (HL) rfl rfl ?_
   exact ⟨p1_12, p1_13, rfl, hG, f12, f13, s14, s15, g12_13⟩
  refine allOps_cons 10 ?_ ?_
  ·refine kF rfl ?_
   rintro L ac wx hL hd ⟨p1_12, p1_13, rfl, hG, f12, f13, s14, s15, g12_13⟩
   have HL := (HW).grl hG n0
   refine wp_ld_bool (v := .bool wd) rfl rfl (HL) rfl ?_
   exact ⟨p1_12, p1_13, rfl, hG, f12, f13, s14, s15, g12_13⟩
  refine allOps_cons 11 ?_ ?_
  ·refine kF rfl ?_
   rintro L ac wx hL hd ⟨p1_12, p1_13, rfl, hG, f12, f13, s14, s15, g12_13⟩
   obtain ⟨e0, e1, e2, -⟩ := hd
   refine wp_call2 rfl (sel_of (e0 rfl)) (sel_of (e1 rfl)) (by go_simp) ?_
   refine ((fun w => k_bitsOf wd b.tv b.tm w) _).mono ?_
   rintro e w1 ⟨rfl, hg⟩
   refine ⟨_, rfl, ?_⟩
   exact ⟨p1_12, p1_13, rfl, hG.then hg, fun h => ⟨(f12 h).1, (f12 h).2.gr hg⟩, fun h => ⟨(f13 h).1, (f13 h).2.gr hg⟩, s14, s15, g12_13⟩
  refine allOps_cons 12 ?_ ?_
  ·refine kF rfl ?_
   rintro L ac wx hL hd ⟨p1_12, p1_13, rfl, hG, f12, f13, s14, s15, g12_13⟩
   have ls : L 14 = false := by
    cases h : L 14 with
    | false => rfl
    | true => have := s14 h; rw [hL] at this; cases this
   refine wp_allocT rfl ?_
   intro w1 hn hg
   exact ⟨wx.heap.size, p1_13, rfl, hG.then hg, fun _ => ⟨hG.size, by rw [show upd L 12 14 = false from ls]; exact hn⟩, fun h => ⟨(f13 h).1, (f13 h).2.gr hg⟩, fun _ => rfl, s15, fun _ h => by have z := (f13 h).2.lt; omega⟩
  refine allOps_cons 13 ?_ ?_
  ·refine kF rfl ?_
   rintro L ac wx hL hd ⟨p1_12, p1_13, rfl, hG, f12, f13, s14, s15, g12_13⟩
   have ls : L 15 = false := by
    cases h : L 15 with
    | false => rfl
    | true => have := s15 h; rw [hL] at this; cases this
   refine wp_allocT rfl ?_
   intro w1 hn hg
   exact ⟨p1_12, wx.heap.size, rfl, hG.then hg, fun h => ⟨(f12 h).1, (f12 h).2.gr hg⟩, fun _ => ⟨hG.size, by rw [show upd L 13 15 = false from ls]; exact hn⟩, s14, fun _ => rfl, fun h _ => by have z := (f12 h).2.lt; omega⟩
  refine allOps_cons 14 ?_ ?_
  ·refine kF rfl ?_
   rintro L ac wx hL hd ⟨p1_12, p1_13, rfl, hG, f12, f13, s14, s15, g12_13⟩
   obtain ⟨e0, e1, e2, e3, e4, e5, e6, e7, e8, e9, e10, e11, e12, e13, e14, e15, e16, -⟩ := hd
   have lp : L 12 = true := e0 rfl
   obtain ⟨k12, z12⟩ := f12 lp
   have HL := z12; rw [hL] at HL
   refine wp_storeT rfl (sel_of (e0 rfl)) (sel_of (e1 rfl)) HL ?_
   intro w1 hn hgx
   exact ⟨p1_12, p1_13, rfl, hG.thenx hgx (.inr k12), fun _ => ⟨k12, hn⟩, fun h => ⟨(f13 h).1, (f13 h).2.grx hgx (Ne.symm (g12_13 lp h))⟩, fun _ => lp, s15, g12_13⟩
  refine allOps_cons 15 ?_ ?_
  ·refine kF rfl ?_
   rintro L ac wx hL hd ⟨p1_12, p1_13, rfl, hG, f12, f13, s14, s15, g12_13⟩
   obtain ⟨e0, e1, e2, e3, e4, e5, e6, e7, e8, e9, e10, e11, e12, e13, e14, e15, e16, e17, -⟩ := hd
   have lp : L 13 = true := e0 rfl
   obtain ⟨k13, z13⟩ := f13 lp
   have HL := z13; rw [hL] at HL
   refine wp_storeT rfl (sel_of (e0 rfl)) (sel_of (e1 rfl)) HL ?_
   intro w1 hn hgx
   exact ⟨p1_12, p1_13, rfl, hG.thenx hgx (.inr k13), fun h => ⟨(f12 h).1, (f12 h).2.grx hgx (g12_13 h lp)⟩, fun _ => ⟨k13, hn⟩, s14, fun _ => lp, g12_13⟩
  exact allOps_nil 16
 case fin =>
  rintro L ac wf1 hall ⟨p1_12, p1_13, rfl, hG1, f12, f13, s14, s15, g12_13⟩
  have l0 : L 0 = true := hall 0 (by decide)
  have l1 : L 1 = true := hall 1 (by decide)
  have l2 : L 2 = true := hall 2 (by decide)
  have l3 : L 3 = true := hall 3 (by decide)
  have l4 : L 4 = true := hall 4 (by decide)
  have l5 : L 5 = true := hall 5 (by decide)
  have l6 : L 6 = true := hall 6 (by decide)
  have l7 : L 7 = true := hall 7 (by decide)
  have l8 : L 8 = true := hall 8 (by decide)
  have l9 : L 9 = true := hall 9 (by decide)
  have l10 : L 10 = true := hall 10 (by decide)
  have l11 : L 11 = true := hall 11 (by decide)
  have l12 : L 12 = true := hall 12 (by decide)
  have l13 : L 13 = true := hall 13 (by decide)
  have l14 : L 14 = true := hall 14 (by decide)
  have l15 : L 15 = true := hall 15 (by decide)
  obtain ⟨kp1_12, zp1_12⟩ := f12 l12
  rw [l14] at zp1_12
  change AtA wf1 p1_12 (#[.int .u64 (iv (ofT wd a.tv)), .int .u64 (iv (ofT wd a.tm))]) 24 at zp1_12
  obtain ⟨kp1_13, zp1_13⟩ := f13 l13
  rw [l15] at zp1_13
  change AtA wf1 p1_13 (#[.int .u64 (iv (ofT wd b.tv)), .int .u64 (iv (ofT wd b.tm))]) 24 at zp1_13
  have np1_12_p1_13 := g12_13 l12 l13
  simp only [l0, l1, l2, l3, l4, l5, l6, l7, l8, l9, l10, l11, l12, l13, sel_t]
  have np_p1_12 : p ≠ p1_12 := Nat.ne_of_lt (Nat.lt_of_lt_of_le (HA).lt kp1_12)
  have np_p1_13 : p ≠ p1_13 := Nat.ne_of_lt (Nat.lt_of_lt_of_le (HA).lt kp1_13)
  have nq_p1_12 : q ≠ p1_12 := Nat.ne_of_lt (Nat.lt_of_lt_of_le (HB).lt kp1_12)
  have nq_p1_13 : q ≠ p1_13 := Nat.ne_of_lt (Nat.lt_of_lt_of_le (HB).lt kp1_13)
  have nPW_p1_12 : PW ≠ p1_12 := Nat.ne_of_lt (Nat.lt_of_lt_of_le (HW).lt kp1_12)
  have nPW_p1_13 : PW ≠ p1_13 := Nat.ne_of_lt (Nat.lt_of_lt_of_le (HW).lt kp1_13)
  have frp1_12 := Nat.le_trans (GrL.refl [p, q] w).size kp1_12
  have frp1_13 := Nat.le_trans (GrL.refl [p, q] w).size kp1_13
  have hp_c1 := (HA).grl hG1 n0
  have hq_c1 := (HB).grl hG1 n0
  have hPW_c1 := (HW).grl hG1 n0
  have hF_c1 := (GrL.refl [p, q] w).app hG1 (r0 )
  clear l0 l1 l2 l3 l4 l5 l6 l7 l8 l9 l10 l11 l12 l13 l14 l15 hall f12 f13 s14 s15 g12_13
  go_upto_region 2 with fail
  refine wp_region_inv (by kernel_rfl) (fun L ac wx =>  ac = ⟨(.pointer (some ⟨p, 0, none⟩) :: .pointer (some ⟨q, 0, none⟩) :: .pointer (some ⟨PW, 0, none⟩) :: undef :: undef :: sel (L 16) (.bool true) (.bool false) :: .pointer (some ⟨p1_12, 0, none⟩) :: .pointer (some ⟨p1_13, 0, none⟩) :: .pointer (some ⟨p, 0, none⟩) :: .pointer (some ⟨p, 0, none⟩) :: .pointer (some ⟨p, 0, none⟩) :: .agg #[.int .u64 (iv a.tv), .int .u64 (iv a.tm)] :: .bool wd :: .agg #[.int .u64 (iv (ofT wd a.tv)), .int .u64 (iv (ofT wd a.tm))] :: .pointer (some ⟨q, 0, none⟩) :: .pointer (some ⟨q, 0, none⟩) :: .pointer (some ⟨q, 0, none⟩) :: .agg #[.int .u64 (iv b.tv), .int .u64 (iv b.tm)] :: .bool wd :: .agg #[.int .u64 (iv (ofT wd b.tv)), .int .u64 (iv (ofT wd b.tm))] :: sel (L 0) (.pointer (some ⟨p, 0, none⟩)) (undef) :: sel (L 1) (.pointer (some ⟨p, 0, none⟩)) (undef) :: sel (L 2) (.pointer (some ⟨p, 0, none⟩)) (undef) :: sel (L 3) (.pointer (some ⟨p1_13, 0, none⟩)) (undef) :: sel (L 4) (.int .u64 (iv (ofT wd b.tv))) (undef) :: sel (L 5) (.agg #[.int .u64 (iv 0#64), .int .u64 (iv (~~~(ofT wd b.tv)))]) (undef) :: sel (L 6) (.bool true) (undef) :: sel (L 7) (.bool true) (undef) :: sel (L 8) (.pointer (some ⟨q, 0, none⟩)) (undef) :: sel (L 9) (.pointer (some ⟨q, 0, none⟩)) (undef) :: sel (L 10) (.pointer (some ⟨q, 0, none⟩)) (undef) :: sel (L 11) (.pointer (some ⟨p1_12, 0, none⟩)) (undef) :: sel (L 12) (.int .u64 (iv (ofT wd a.tv))) (undef) :: sel (L 13) (.agg #[.int .u64 (iv 0#64), .int .u64 (iv (~~~(ofT wd a.tv)))]) (undef) :: sel (L 14) (.bool true) (undef) :: sel (L 15) (.bool true) (undef) :: [] : List Value).toArray, []⟩ ∧ GrL [p, q] wf1 wx ∧ AtA wx p (sel (L 6) (bv { a with tv := Tn.mtV a.tv a.tm (0#64) (~~~(ofT wd b.tv)), tm := Tn.mtM a.tv a.tm (0#64) (~~~(ofT wd b.tv)) }) (bv a)) 30 ∧ AtA wx q (sel (L 14) (bv { b with tv := Tn.mtV b.tv b.tm (0#64) (~~~(ofT wd a.tv)), tm := Tn.mtM b.tv b.tm (0#64) (~~~(ofT wd a.tv)) }) (bv b)) 30) (by kernel_rfl) ?h0 ?step ?fin
  case h0 => exact ⟨rfl, GrL.of (Gr.drew (Gr.refl _)), (hp_c1).drew, (hq_c1).drew⟩
  case step =>
   refine allOps_cons 0 ?_ ?_
   ·refine kF rfl ?_
    rintro L ac wx hL hd ⟨rfl, hG, Ap, Aq⟩
    refine wM (v := .pointer (some ⟨p, 0, none⟩)) rfl rfl ?_
    exact ⟨rfl, hG, Ap, Aq⟩
   refine allOps_cons 1 ?_ ?_
   ·refine kF rfl ?_
    rintro L ac wx hL hd ⟨rfl, hG, Ap, Aq⟩
    obtain ⟨e0, -⟩ := hd
    refine wp_nil (r := ⟨p, 0, none⟩) rfl (sel_of (e0 rfl)) ?_
    exact ⟨rfl, hG, Ap, Aq⟩
   refine allOps_cons 2 ?_ ?_
   ·refine kF rfl ?_
    rintro L ac wx hL hd ⟨rfl, hG, Ap, Aq⟩
    obtain ⟨e0, -⟩ := hd
    refine wp_fa0 rfl (sel_of (e0 rfl)) ?_
    exact ⟨rfl, hG, Ap, Aq⟩
   refine allOps_cons 3 ?_ ?_
   ·refine kF rfl ?_
    rintro L ac wx hL hd ⟨rfl, hG, Ap, Aq⟩
    refine wp_fT0 rfl rfl ?_
    exact ⟨rfl, hG, Ap, Aq⟩
   refine allOps_cons 4 ?_ ?_
   ·refine kF rfl ?_
    rintro L ac wx hL hd ⟨rfl, hG, Ap, Aq⟩
    obtain ⟨e0, -⟩ := hd
    have HL := (zp1_13).grl hG (n2 (Ne.symm np_p1_13) (Ne.symm nq_p1_13))
    refine wp_ld_uint64 (v := .int .u64 (iv (ofT wd b.tv))) rfl (sel_of (e0 rfl)) (HL) rfl ?_
    exact ⟨rfl, hG, Ap, Aq⟩
   refine allOps_cons 5 ?_ ?_
   ·refine kF rfl ?_
    rintro L ac wx hL hd ⟨rfl, hG, Ap, Aq⟩
    obtain ⟨e0, -⟩ := hd
    refine wp_call1 rfl (sel_of (e0 rfl)) (by go_simp) ?_
    refine ((fun w => k_zeros (ofT wd b.tv) w) _).mono ?_
    rintro e w1 ⟨rfl, hg⟩
    refine ⟨_, rfl, ?_⟩
    exact ⟨rfl, hG.then hg, Ap.gr hg, Aq.gr hg⟩
   refine allOps_cons 6 ?_ ?_
   ·refine kF rfl ?_
    rintro L ac wx hL hd ⟨rfl, hG, Ap, Aq⟩
    obtain ⟨e0, e1, e2, -⟩ := hd
    have HL := Ap; rw [hL] at HL
    refine wp_call2 rfl (sel_of (e0 rfl)) (sel_of (e1 rfl)) (by go_simp) ?_
    refine (k_know a (0#64) (~~~(ofT wd b.tv)) true h1 p _ HL).mono ?_
    rintro e w1 ⟨rfl, hn, hgx⟩
    refine ⟨_, rfl, ?_⟩
    exact ⟨rfl, hG.thenx hgx (.inl m21), hn, Aq.grx hgx (Ne.symm hpq)⟩
   refine allOps_cons 7 ?_ ?_
   ·refine kF rfl ?_
    rintro L ac wx hL hd ⟨rfl, hG, Ap, Aq⟩
    obtain ⟨e0, e1, -⟩ := hd
    refine wM (v := .bool true) rfl (sel_of (e0 rfl)) ?_
    exact ⟨rfl, hG, Ap, Aq⟩
   refine allOps_cons 8 ?_ ?_
   ·refine keeps_yes ?_
    rintro L ac wx hL hd ⟨rfl, hG, Ap, Aq⟩
    obtain ⟨e0, -⟩ := hd
    refine ⟨wanted_of (k := 7) (b := true) (c := true) rfl rfl rfl rfl (sel_of (e0 rfl)) rfl, ?_⟩
    refine wM (v := .pointer (some ⟨q, 0, none⟩)) rfl rfl ?_
    exact ⟨rfl, hG, Ap, Aq⟩
   refine allOps_cons 9 ?_ ?_
   ·refine keeps_yes ?_
    rintro L ac wx hL hd ⟨rfl, hG, Ap, Aq⟩
    obtain ⟨e0, e1, -⟩ := hd
    refine ⟨wanted_of (k := 7) (b := true) (c := true) rfl rfl rfl rfl (sel_of (e1 rfl)) rfl, ?_⟩
    refine wp_nil (r := ⟨q, 0, none⟩) rfl (sel_of (e0 rfl)) ?_
    exact ⟨rfl, hG, Ap, Aq⟩
   refine allOps_cons 10 ?_ ?_
   ·refine keeps_yes ?_
    rintro L ac wx hL hd ⟨rfl, hG, Ap, Aq⟩
    obtain ⟨e0, e1, -⟩ := hd
    refine ⟨wanted_of (k := 7) (b := true) (c := true) rfl rfl rfl rfl (sel_of (e1 rfl)) rfl, ?_⟩
    refine wp_fa0 rfl (sel_of (e0 rfl)) ?_
    exact ⟨rfl, hG, Ap, Aq⟩
   refine allOps_cons 11 ?_ ?_
   ·refine keeps_yes ?_
    rintro L ac wx hL hd ⟨rfl, hG, Ap, Aq⟩
    obtain ⟨e0, -⟩ := hd
    refine ⟨wanted_of (k := 7) (b := true) (c := true) rfl rfl rfl rfl (sel_of (e0 rfl)) rfl, ?_⟩
    refine wp_fT0 rfl rfl ?_
    exact ⟨rfl, hG, Ap, Aq⟩
   refine allOps_cons 12 ?_ ?_
   ·refine keeps_yes ?_
    rintro L ac wx hL hd ⟨rfl, hG, Ap, Aq⟩
    obtain ⟨e0, e1, -⟩ := hd
    refine ⟨wanted_of (k := 7) (b := true) (c := true) rfl rfl rfl rfl (sel_of (e1 rfl)) rfl, ?_⟩
    have HL := (zp1_12).grl hG (n2 (Ne.symm np_p1_12) (Ne.symm nq_p1_12))
    refine wp_ld_uint64 (v := .int .u64 (iv (ofT wd a.tv))) rfl (sel_of (e0 rfl)) (HL) rfl ?_
    exact ⟨rfl, hG, Ap, Aq⟩
   refine allOps_cons 13 ?_ ?_
   ·refine keeps_yes ?_
    rintro L ac wx hL hd ⟨rfl, hG, Ap, Aq⟩
    obtain ⟨e0, e1, e2, -⟩ := hd
    refine ⟨wanted_of (k := 7) (b := true) (c := true) rfl rfl rfl rfl (sel_of (e1 rfl)) rfl, ?_⟩
    refine wp_call1 rfl (sel_of (e0 rfl)) (by go_simp) ?_
    refine ((fun w => k_zeros (ofT wd a.tv) w) _).mono ?_
    rintro e w1 ⟨rfl, hg⟩
    refine ⟨_, rfl, ?_⟩
    exact ⟨rfl, hG.then hg, Ap.gr hg, Aq.gr hg⟩
   refine allOps_cons 14 ?_ ?_
   ·refine keeps_yes ?_
    rintro L ac wx hL hd ⟨rfl, hG, Ap, Aq⟩
    obtain ⟨e0, e1, e2, e3, -⟩ := hd
    refine ⟨wanted_of (k := 7) (b := true) (c := true) rfl rfl rfl rfl (sel_of (e3 rfl)) rfl, ?_⟩
    have HL := Aq; rw [hL] at HL
    refine wp_call2 rfl (sel_of (e0 rfl)) (sel_of (e1 rfl)) (by go_simp) ?_
    refine (k_know b (0#64) (~~~(ofT wd a.tv)) true h2 q _ HL).mono ?_
    rintro e w1 ⟨rfl, hn, hgx⟩
    refine ⟨_, rfl, ?_⟩
    exact ⟨rfl, hG.thenx hgx (.inl m22), Ap.grx hgx hpq, hn⟩
   refine allOps_cons 15 ?_ ?_
   ·refine kF rfl ?_
    rintro L ac wx hL hd ⟨rfl, hG, Ap, Aq⟩
    obtain ⟨e0, e1, -⟩ := hd
    refine wp_pickT (v := .bool true) rfl (sel_of (e0 rfl)) (sel_of (e1 rfl)) ?_
    exact ⟨rfl, hG, Ap, Aq⟩
   refine allOps_cons 16 ?_ ?_
   ·refine kF rfl ?_
    rintro L ac wx hL hd ⟨rfl, hG, Ap, Aq⟩
    obtain ⟨e0, e1, e2, e3, e4, e5, e6, e7, e8, e9, e10, e11, e12, e13, e14, e15, e16, e17, -⟩ := hd
    refine wA (v := .bool true) rfl (sel_of (e0 rfl)) ?_
    exact ⟨rfl, hG, Ap, Aq⟩
   exact allOps_nil 17
  case fin =>
   rintro L ac wf2 hall ⟨rfl, hG2, B2p, B2q⟩
   have l0 : L 0 = true := hall 0 (by decide)
   have l1 : L 1 = true := hall 1 (by decide)
   have l2 : L 2 = true := hall 2 (by decide)
   have l3 : L 3 = true := hall 3 (by decide)
   have l4 : L 4 = true := hall 4 (by decide)
   have l5 : L 5 = true := hall 5 (by decide)
   have l6 : L 6 = true := hall 6 (by decide)
   have l7 : L 7 = true := hall 7 (by decide)
   have l8 : L 8 = true := hall 8 (by decide)
   have l9 : L 9 = true := hall 9 (by decide)
   have l10 : L 10 = true := hall 10 (by decide)
   have l11 : L 11 = true := hall 11 (by decide)
   have l12 : L 12 = true := hall 12 (by decide)
   have l13 : L 13 = true := hall 13 (by decide)
   have l14 : L 14 = true := hall 14 (by decide)
   have l15 : L 15 = true := hall 15 (by decide)
   have l16 : L 16 = true := hall 16 (by decide)
   rw [l6] at B2p
   change AtA wf2 p (bv { a with tv := Tn.mtV a.tv a.tm (0#64) (~~~(ofT wd b.tv)), tm := Tn.mtM a.tv a.tm (0#64) (~~~(ofT wd b.tv)) }) 30 at B2p
   rw [l14] at B2q
   change AtA wf2 q (bv { b with tv := Tn.mtV b.tv b.tm (0#64) (~~~(ofT wd a.tv)), tm := Tn.mtM b.tv b.tm (0#64) (~~~(ofT wd a.tv)) }) 30 at B2q
   simp only [l0, l1, l2, l3, l4, l5, l6, l7, l8, l9, l10, l11, l12, l13, l14, l15, l16, sel_t]
   have hPW_c2 := (hPW_c1).grl hG2 (n2 (Ne.symm npPW) (Ne.symm nqPW))
   have hp1_12_c2 := (zp1_12).grl hG2 (n2 (Ne.symm np_p1_12) (Ne.symm nq_p1_12))
   have hp1_13_c2 := (zp1_13).grl hG2 (n2 (Ne.symm np_p1_13) (Ne.symm nq_p1_13))
   have hF_c2 := (hF_c1).app hG2 (r2 (.inl m21) (.inl m22))
   clear l0 l1 l2 l3 l4 l5 l6 l7 l8 l9 l10 l11 l12 l13 l14 l15 l16 hall
   go_wp2
   go_ret
   exact ⟨rfl, B2p, B2q, hF_c2⟩
theorem tell_clear (wd : Bool) (a b : Bd) (p q : Nat) (w : World) (hpq : p ≠ q) (HA : AtA w p (bv a) 30) (HB : AtA w q (bv b) 30) (PW : Nat) (npPW : p ≠ PW) (nqPW : q ≠ PW) (HW : AtA w PW #[.bool wd] 4) : Calls Tryz.prog 238 #[.pointer (some ⟨p, 0, none⟩), .pointer (some ⟨q, 0, none⟩), .pointer (some ⟨PW, 0, none⟩)] w (tellPost p q (clearM wd a b) w) := by
 unfold clearM knowM
 cases h1 : Tn.meetX a.tv a.tm 0#64 (~~~(ofT wd b.tv)) with
 | false => exact clear_n wd a b p q w hpq HA HB PW npPW nqPW HW h1
 | true =>
  cases h2 : Tn.meetX b.tv b.tm 0#64 (~~~(ofT wd a.tv)) with
  | false => exact clear_tn wd a b p q w hpq HA HB PW npPW nqPW HW h1 h2
  | true => exact clear_tt wd a b p q w hpq HA HB PW npPW nqPW HW h1 h2
end Go.Proofs.YtcbcijibgpaipaaGreat
end
section
namespace Go.Proofs.YtcbcijibgpaipaaGreat
open Go.ChangeShapes Go.WideShapes Go.ChangeAt Go.RowKit
open Tn (iv)
set_option linter.unusedVariables false
set_option linter.unusedSimpArgs false
set_option maxRecDepth 20000

set_option maxHeartbeats 16000000 in
theorem tell_alike (a b : Bd) (ga : Good a) (gb : Good b) (p q : Nat) (w : World) (hpq : p ≠ q) (HA : AtA w p (bv a) 30) (HB : AtA w q (bv b) 30) : Calls Tryz.prog 263 #[.pointer (some ⟨p, 0, none⟩), .pointer (some ⟨q, 0, none⟩)] w (tellPost p q (eqM true a b) w) := by
  show Calls Tryz.prog 263 #[.pointer (some ⟨p, 0, none⟩), .pointer (some ⟨q, 0, none⟩)] w fun e w' => e = .returned (.bool true) ∧ AtA w' p (bv (meetM a b)) 30 ∧ AtA w' q (bv (meetM a b)) 30 ∧ GrL [p, q] w w'
  go_enter Tryz.func263, Tryz.ntmps263
  go_upto_region 0 with fail
  refine rG ?_
  refine sF rfl ?_
  refine wA (v := .bool false) rfl rfl ?_
  simp only [Act.put, zs, z0, z1]
  refine s_end ?_
  go_upto_region 1 with fail
  refine wp_region_inv (by kernel_rfl) (fun L ac wx => ∃ (p1_7 : Nat), ac = ⟨(.pointer (some ⟨p, 0, none⟩) :: .pointer (some ⟨q, 0, none⟩) :: undef :: undef :: .bool false :: sel (L 7) (.pointer (some ⟨p1_7, 0, none⟩)) (undef) :: sel (L 0) (.pointer (some ⟨p, 0, none⟩)) (undef) :: sel (L 1) (.pointer (some ⟨p, 0, none⟩)) (undef) :: sel (L 2) (.agg (bv a)) (undef) :: sel (L 3) (.pointer (some ⟨q, 0, none⟩)) (undef) :: sel (L 4) (.pointer (some ⟨q, 0, none⟩)) (undef) :: sel (L 5) (.agg (bv b)) (undef) :: sel (L 6) (.agg (bv (meetM a b))) (undef) :: undef :: undef :: undef :: undef :: undef :: undef :: [] : List Value).toArray, []⟩ ∧ GrL [] w wx ∧ (L 7 = true → w.heap.size ≤ p1_7 ∧ AtA wx p1_7 (sel (L 8) (bv (meetM a b)) (bv zeroM)) 30) ∧ (L 8 = true → L 7 = true)) (by kernel_rfl) ?h0 ?step ?fin
  case h0 => exact ⟨0, rfl, GrL.of (Gr.drew (Gr.refl _)), (fun h => by cases h), (fun h => by cases h)⟩
  case step =>
    refine allOps_cons 0 ?_ ?_
    · refine kF rfl ?_
      rintro L ac wx hL hd ⟨p1_7, rfl, hG, f7, s8⟩
      refine wM (v := .pointer (some ⟨p, 0, none⟩)) rfl rfl ?_
      exact ⟨p1_7, rfl, hG, f7, s8⟩
    refine allOps_cons 1 ?_ ?_
    · refine kF rfl ?_
      rintro L ac wx hL hd ⟨p1_7, rfl, hG, f7, s8⟩
      obtain ⟨e0, -⟩ := hd
      refine wp_nil (r := ⟨p, 0, none⟩) rfl (sel_of (e0 rfl)) ?_
      exact ⟨p1_7, rfl, hG, f7, s8⟩
    refine allOps_cons 2 ?_ ?_
    · refine kF rfl ?_
      rintro L ac wx hL hd ⟨p1_7, rfl, hG, f7, s8⟩
      obtain ⟨e0, -⟩ := hd
      have HL := (HA).grl hG n0
      refine wp_loadB rfl (sel_of (e0 rfl)) (HL) ?_
      exact ⟨p1_7, rfl, hG, f7, s8⟩
    refine allOps_cons 3 ?_ ?_
    · refine kF rfl ?_
      rintro L ac wx hL hd ⟨p1_7, rfl, hG, f7, s8⟩
      refine wM (v := .pointer (some ⟨q, 0, none⟩)) rfl rfl ?_
      exact ⟨p1_7, rfl, hG, f7, s8⟩
    refine allOps_cons 4 ?_ ?_
    · refine kF rfl ?_
      rintro L ac wx hL hd ⟨p1_7, rfl, hG, f7, s8⟩
      obtain ⟨e0, -⟩ := hd
      refine wp_nil (r := ⟨q, 0, none⟩) rfl (sel_of (e0 rfl)) ?_
      exact ⟨p1_7, rfl, hG, f7, s8⟩
    refine allOps_cons 5 ?_ ?_
    · refine kF rfl ?_
      rintro L ac wx hL hd ⟨p1_7, rfl, hG, f7, s8⟩
      obtain ⟨e0, -⟩ := hd
      have HL := (HB).grl hG n0
      refine wp_loadB rfl (sel_of (e0 rfl)) (HL) ?_
      exact ⟨p1_7, rfl, hG, f7, s8⟩
    refine allOps_cons 6 ?_ ?_
    · refine kF rfl ?_
      rintro L ac wx hL hd ⟨p1_7, rfl, hG, f7, s8⟩
      obtain ⟨e0, e1, -⟩ := hd
      refine wp_call2 rfl (sel_of (e0 rfl)) (sel_of (e1 rfl)) (by go_simp) ?_
      refine ((fun w => k_meet2 a b ga gb w) _).mono ?_
      rintro e w1 ⟨rfl, hg⟩
      refine ⟨_, rfl, ?_⟩
      exact ⟨p1_7, rfl, hG.then hg, fun h => ⟨(f7 h).1, (f7 h).2.gr hg⟩, s8⟩
    refine allOps_cons 7 ?_ ?_
    · refine kF rfl ?_
      rintro L ac wx hL hd ⟨p1_7, rfl, hG, f7, s8⟩
      have ls : L 8 = false := by
        cases h : L 8 with
        | false => rfl
        | true => have := s8 h; rw [hL] at this; cases this
      refine wp_allocB rfl ?_
      intro w1 hn hg
      exact ⟨wx.heap.size, rfl, hG.then hg, fun _ => ⟨hG.size, by rw [show upd L 7 8 = false from ls]; exact hn⟩, fun _ => rfl⟩
    refine allOps_cons 8 ?_ ?_
    · refine kF rfl ?_
      rintro L ac wx hL hd ⟨p1_7, rfl, hG, f7, s8⟩
      obtain ⟨e0, e1, e2, e3, e4, e5, e6, e7, e8, e9, e10, -⟩ := hd
      have lp : L 7 = true := e0 rfl
      obtain ⟨k7, z7⟩ := f7 lp
      have HL := z7; rw [hL] at HL
      refine wp_storeB rfl (sel_of (e0 rfl)) (sel_of (e1 rfl)) HL ?_
      intro w1 hn hgx
      exact ⟨p1_7, rfl, hG.thenx hgx (.inr k7), fun _ => ⟨k7, hn⟩, fun _ => lp⟩
    exact allOps_nil 9
  case fin =>
    rintro L ac wf1 hall ⟨p1_7, rfl, hG1, f7, s8⟩
    have l0 : L 0 = true := hall 0 (by decide)
    have l1 : L 1 = true := hall 1 (by decide)
    have l2 : L 2 = true := hall 2 (by decide)
    have l3 : L 3 = true := hall 3 (by decide)
    have l4 : L 4 = true := hall 4 (by decide)
    have l5 : L 5 = true := hall 5 (by decide)
    have l6 : L 6 = true := hall 6 (by decide)
    have l7 : L 7 = true := hall 7 (by decide)
    have l8 : L 8 = true := hall 8 (by decide)
    obtain ⟨kp1_7, zp1_7⟩ := f7 l7
    rw [l8] at zp1_7
    change AtA wf1 p1_7 (bv (meetM a b)) 30 at zp1_7
    simp only [l0, l1, l2, l3, l4, l5, l6, l7, sel_t]
    have np_p1_7 : p ≠ p1_7 := Nat.ne_of_lt (Nat.lt_of_lt_of_le (HA).lt kp1_7)
    have nq_p1_7 : q ≠ p1_7 := Nat.ne_of_lt (Nat.lt_of_lt_of_le (HB).lt kp1_7)
    have frp1_7 := Nat.le_trans (GrL.refl [p, q] w).size kp1_7
    have hp_c1 := (HA).grl hG1 n0
    have hq_c1 := (HB).grl hG1 n0
    have hF_c1 := (GrL.refl [p, q] w).app hG1 (r0 )
    clear l0 l1 l2 l3 l4 l5 l6 l7 l8 hall f7 s8
    go_upto_region 2 with fail
    refine wp_region_inv (by kernel_rfl) (fun L ac wx =>  ac = ⟨(.pointer (some ⟨p, 0, none⟩) :: .pointer (some ⟨q, 0, none⟩) :: undef :: undef :: .bool false :: .pointer (some ⟨p1_7, 0, none⟩) :: .pointer (some ⟨p, 0, none⟩) :: .pointer (some ⟨p, 0, none⟩) :: .agg (bv a) :: .pointer (some ⟨q, 0, none⟩) :: .pointer (some ⟨q, 0, none⟩) :: .agg (bv b) :: .agg (bv (meetM a b)) :: sel (L 0) (.pointer (some ⟨p, 0, none⟩)) (undef) :: sel (L 1) (.pointer (some ⟨q, 0, none⟩)) (undef) :: sel (L 2) (.agg (bv (meetM a b))) (undef) :: sel (L 3) (.agg (bv (meetM a b))) (undef) :: sel (L 4) (.pointer (some ⟨p, 0, none⟩)) (undef) :: sel (L 6) (.pointer (some ⟨q, 0, none⟩)) (undef) :: [] : List Value).toArray, []⟩ ∧ GrL [p, q] wf1 wx ∧ AtA wx p (sel (L 5) (bv (meetM a b)) (bv a)) 30 ∧ AtA wx q (sel (L 7) (bv (meetM a b)) (bv b)) 30) (by kernel_rfl) ?h0 ?step ?fin
    case h0 => exact ⟨rfl, GrL.of (Gr.drew (Gr.refl _)), (hp_c1).drew, (hq_c1).drew⟩
    case step =>
      refine allOps_cons 0 ?_ ?_
      · refine kF rfl ?_
        rintro L ac wx hL hd ⟨rfl, hG, Ap, Aq⟩
        refine wM (v := .pointer (some ⟨p, 0, none⟩)) rfl rfl ?_
        exact ⟨rfl, hG, Ap, Aq⟩
      refine allOps_cons 1 ?_ ?_
      · refine kF rfl ?_
        rintro L ac wx hL hd ⟨rfl, hG, Ap, Aq⟩
        obtain ⟨e0, -⟩ := hd
        refine wM (v := .pointer (some ⟨q, 0, none⟩)) rfl rfl ?_
        exact ⟨rfl, hG, Ap, Aq⟩
      refine allOps_cons 2 ?_ ?_
      · refine kF rfl ?_
        rintro L ac wx hL hd ⟨rfl, hG, Ap, Aq⟩
        have HL := (zp1_7).grl hG (n2 (Ne.symm np_p1_7) (Ne.symm nq_p1_7))
        refine wp_loadB rfl rfl (HL) ?_
        exact ⟨rfl, hG, Ap, Aq⟩
      refine allOps_cons 3 ?_ ?_
      · refine kF rfl ?_
        rintro L ac wx hL hd ⟨rfl, hG, Ap, Aq⟩
        obtain ⟨e0, -⟩ := hd
        have HL := (zp1_7).grl hG (n2 (Ne.symm np_p1_7) (Ne.symm nq_p1_7))
        refine wp_loadB rfl rfl (HL) ?_
        exact ⟨rfl, hG, Ap, Aq⟩
      refine allOps_cons 4 ?_ ?_
      · refine kF rfl ?_
        rintro L ac wx hL hd ⟨rfl, hG, Ap, Aq⟩
        obtain ⟨e0, e1, e2, e3, e4, -⟩ := hd
        refine wp_nil (r := ⟨p, 0, none⟩) rfl (sel_of (e0 rfl)) ?_
        exact ⟨rfl, hG, Ap, Aq⟩
      refine allOps_cons 5 ?_ ?_
      · refine kF rfl ?_
        rintro L ac wx hL hd ⟨rfl, hG, Ap, Aq⟩
        obtain ⟨e0, e1, e2, e3, e4, e5, -⟩ := hd
        have HL := Ap; rw [hL] at HL
        refine wp_storeB rfl (sel_of (e0 rfl)) (sel_of (e1 rfl)) HL ?_
        intro w1 hn hgx
        exact ⟨rfl, hG.thenx hgx (.inl m21), hn, Aq.grx hgx (Ne.symm hpq)⟩
      refine allOps_cons 6 ?_ ?_
      · refine kF rfl ?_
        rintro L ac wx hL hd ⟨rfl, hG, Ap, Aq⟩
        obtain ⟨e0, e1, e2, e3, e4, e5, e6, -⟩ := hd
        refine wp_nil (r := ⟨q, 0, none⟩) rfl (sel_of (e0 rfl)) ?_
        exact ⟨rfl, hG, Ap, Aq⟩
      refine allOps_cons 7 ?_ ?_
      · refine kF rfl ?_
        rintro L ac wx hL hd ⟨rfl, hG, Ap, Aq⟩
        obtain ⟨e0, e1, e2, e3, e4, e5, e6, e7, e8, -⟩ := hd
        have HL := Aq; rw [hL] at HL
        refine wp_storeB rfl (sel_of (e0 rfl)) (sel_of (e1 rfl)) HL ?_
        intro w1 hn hgx
        exact ⟨rfl, hG.thenx hgx (.inl m22), Ap.grx hgx hpq, hn⟩
      exact allOps_nil 8
    case fin =>
      rintro L ac wf2 hall ⟨rfl, hG2, B2p, B2q⟩
      have l0 : L 0 = true := hall 0 (by decide)
      have l1 : L 1 = true := hall 1 (by decide)
      have l2 : L 2 = true := hall 2 (by decide)
      have l3 : L 3 = true := hall 3 (by decide)
      have l4 : L 4 = true := hall 4 (by decide)
      have l5 : L 5 = true := hall 5 (by decide)
      have l6 : L 6 = true := hall 6 (by decide)
      have l7 : L 7 = true := hall 7 (by decide)
      rw [l5] at B2p
      change AtA wf2 p (bv (meetM a b)) 30 at B2p
      rw [l7] at B2q
      change AtA wf2 q (bv (meetM a b)) 30 at B2q
      simp only [l0, l1, l2, l3, l4, l6, sel_t]
      have hp1_7_c2 := (zp1_7).grl hG2 (n2 (Ne.symm np_p1_7) (Ne.symm nq_p1_7))
      have hF_c2 := (hF_c1).app hG2 (r2 (.inl m21) (.inl m22))
      clear l0 l1 l2 l3 l4 l5 l6 l7 hall
      go_upto_region 3 with fail
      refine rG ?_
      refine sF rfl ?_
      refine wA (v := .bool true) rfl rfl ?_
      simp only [Act.put, zs, z0, z1]
      refine s_end ?_
      go_wp2
      go_ret
      exact ⟨rfl, B2p, B2q, hF_c2⟩
end Go.Proofs.YtcbcijibgpaipaaGreat
end
