/- Towards the statements of package cond (layer 6): what its closures tell two bounds: halves alike, bits in common. -/
import Derived.Test.YtcbcijibgpaipaaGreatCA
import Derived.Test.YtcbcijibgpaipaaGreatMN
import Derived.Deep.DeepCutAuto
namespace Go.Proofs.YtcbcijibgpaipaaGreat
open Go.ChangeShapes Go.WideShapes Go.ChangeAt Go.RowKit
open Tn (iv)
set_option linter.unusedVariables false
set_option linter.unusedSimpArgs false
set_option maxRecDepth 20000

set_option maxHeartbeats 16000000 in
theorem halves_n (a b : Bd) (p q : Nat) (w : World) (hpq : p ≠ q) (HA : AtA w p (bv a) 30) (HB : AtA w q (bv b) 30) (kh1 : Tn.meetX a.tv a.tm (lowT b.tv) (lowT b.tm ||| hiM) = false) : Calls Tryz.prog 262 #[.pointer (some ⟨p, 0, none⟩), .pointer (some ⟨q, 0, none⟩)] w fun e w' => e = .returned (.bool false) ∧ GrL [p, q] w w' := by
 go_enter Tryz.func262, Tryz.ntmps262
 go_upto_region 0 with fail
 refine rG ?_
 refine sF rfl ?_
 refine wA (v := .bool false) rfl rfl ?_
 simp only [Act.put, zs, z0, z1]
 refine s_end ?_
 go_upto_region 1 with fail
 refine wp_region_inv (by kernel_rfl) (fun L ac wx => ∃ (p1_10 : Nat) (p1_11 : Nat), ac = ⟨(.pointer (some ⟨p, 0, none⟩) :: .pointer (some ⟨q, 0, none⟩) :: undef :: undef :: .bool false :: sel (L 10) (.pointer (some ⟨p1_10, 0, none⟩)) (undef) :: sel (L 11) (.pointer (some ⟨p1_11, 0, none⟩)) (undef) :: undef :: undef :: sel (L 0) (.pointer (some ⟨p, 0, none⟩)) (undef) :: sel (L 1) (.pointer (some ⟨p, 0, none⟩)) (undef) :: sel (L 2) (.pointer (some ⟨p, 0, none⟩)) (undef) :: sel (L 3) (.agg #[.int .u64 (iv a.tv), .int .u64 (iv a.tm)]) (undef) :: sel (L 4) (.agg #[.int .u64 (iv (lowT a.tv)), .int .u64 (iv (lowT a.tm ||| hiM))]) (undef) :: sel (L 5) (.pointer (some ⟨q, 0, none⟩)) (undef) :: sel (L 6) (.pointer (some ⟨q, 0, none⟩)) (undef) :: sel (L 7) (.pointer (some ⟨q, 0, none⟩)) (undef) :: sel (L 8) (.agg #[.int .u64 (iv b.tv), .int .u64 (iv b.tm)]) (undef) :: sel (L 9) (.agg #[.int .u64 (iv (lowT b.tv)), .int .u64 (iv (lowT b.tm ||| hiM))]) (undef) :: undef :: undef :: undef :: undef :: undef :: undef :: undef :: undef :: undef :: undef :: undef :: undef :: undef :: undef :: undef :: undef :: undef :: undef :: undef :: undef :: undef :: undef :: undef :: undef :: undef :: undef :: undef :: undef :: undef :: undef :: undef :: undef :: undef :: undef :: undef :: undef :: undef :: undef :: undef :: undef :: undef :: undef :: undef :: undef :: undef :: undef :: [] : List Value).toArray, []⟩ ∧ GrL [] w wx ∧ (L 10 = true → w.heap.size ≤ p1_10 ∧ AtA wx p1_10 (sel (L 12) (#[.int .u64 (iv (lowT a.tv)), .int .u64 (iv (lowT a.tm ||| hiM))]) (#[.int .u64 0, .int .u64 0])) 24) ∧ (L 11 = true → w.heap.size ≤ p1_11 ∧ AtA wx p1_11 (sel (L 13) (#[.int .u64 (iv (lowT b.tv)), .int .u64 (iv (lowT b.tm ||| hiM))]) (#[.int .u64 0, .int .u64 0])) 24) ∧ (L 12 = true → L 10 = true) ∧ (L 13 = true → L 11 = true) ∧ (L 10 = true → L 11 = true → p1_10 ≠ p1_11)) (by kernel_rfl) ?h0 ?step ?fin
 case h0 => exact ⟨0, 0, rfl, GrL.of (Gr.drew (Gr.refl _)), (fun h => by cases h), (fun h => by cases h), (fun h => by cases h), (fun h => by cases h), (fun h => by cases h)⟩
 case step =>
  refine allOps_cons 0 ?_ ?_
  ·refine kF rfl ?_
   rintro L ac wx hL hd ⟨p1_10, p1_11, rfl, hG, f10, f11, s12, s13, g10_11⟩
   refine wM (v := .pointer (some ⟨p, 0, none⟩)) rfl rfl ?_
   exact ⟨p1_10, p1_11, rfl, hG, f10, f11, s12, s13, g10_11⟩
  refine allOps_cons 1 ?_ ?_
  ·refine kF rfl ?_
   rintro L ac wx hL hd ⟨p1_10, p1_11, rfl, hG, f10, f11, s12, s13, g10_11⟩
   obtain ⟨e0, -⟩ := hd
   refine wp_nil (r := ⟨p, 0, none⟩) rfl (sel_of (e0 rfl)) ?_
   exact ⟨p1_10, p1_11, rfl, hG, f10, f11, s12, s13, g10_11⟩
  refine allOps_cons 2 ?_ ?_
  ·refine kF rfl ?_
   rintro L ac wx hL hd ⟨p1_10, p1_11, rfl, hG, f10, f11, s12, s13, g10_11⟩
   obtain ⟨e0, -⟩ := hd
   refine wp_fa0 rfl (sel_of (e0 rfl)) ?_
   exact ⟨p1_10, p1_11, rfl, hG, f10, f11, s12, s13, g10_11⟩
  refine allOps_cons 3 ?_ ?_
  ·refine kF rfl ?_
   rintro L ac wx hL hd ⟨p1_10, p1_11, rfl, hG, f10, f11, s12, s13, g10_11⟩
   obtain ⟨e0, -⟩ := hd
   have HL := (HA).grl hG n0
   refine wp_pT (v0 := .int .u64 (iv a.tv)) (v1 := .int .u64 (iv a.tm)) rfl (sel_of (e0 rfl)) (HL) rfl rfl ?_
   exact ⟨p1_10, p1_11, rfl, hG, f10, f11, s12, s13, g10_11⟩
  refine allOps_cons 4 ?_ ?_
  ·refine kF rfl ?_
   rintro L ac wx hL hd ⟨p1_10, p1_11, rfl, hG, f10, f11, s12, s13, g10_11⟩
   obtain ⟨e0, -⟩ := hd
   refine wp_call1 rfl (sel_of (e0 rfl)) (by go_simp) ?_
   refine ((fun w => k_lowerBits a.tv a.tm w) _).mono ?_
   rintro e w1 ⟨rfl, hg⟩
   refine ⟨_, rfl, ?_⟩
   exact ⟨p1_10, p1_11, rfl, hG.then hg, fun h => ⟨(f10 h).1, (f10 h).2.gr hg⟩, fun h => ⟨(f11 h).1, (f11 h).2.gr hg⟩, s12, s13, g10_11⟩
  refine allOps_cons 5 ?_ ?_
  ·refine kF rfl ?_
   rintro L ac wx hL hd ⟨p1_10, p1_11, rfl, hG, f10, f11, s12, s13, g10_11⟩
   refine wM (v := .pointer (some ⟨q, 0, none⟩)) rfl rfl ?_
   exact ⟨p1_10, p1_11, rfl, hG, f10, f11, s12, s13, g10_11⟩
  refine allOps_cons 6 ?_ ?_
  ·refine kF rfl ?_
   rintro L ac wx hL hd ⟨p1_10, p1_11, rfl, hG, f10, f11, s12, s13, g10_11⟩
   obtain ⟨e0, -⟩ := hd
   refine wp_nil (r := ⟨q, 0, none⟩) rfl (sel_of (e0 rfl)) ?_
   exact ⟨p1_10, p1_11, rfl, hG, f10, f11, s12, s13, g10_11⟩
  refine allOps_cons 7 ?_ ?_
  ·refine kF rfl ?_
   rintro L ac wx hL hd ⟨p1_10, p1_11, rfl, hG, f10, f11, s12, s13, g10_11⟩
   obtain ⟨e0, -⟩ := hd
   refine wp_fa0 rfl (sel_of (e0 rfl)) ?_
   exact ⟨p1_10, p1_11, rfl, hG, f10, f11, s12, s13, g10_11⟩
  refine allOps_cons 8 ?_ ?_
  ·refine kF rfl ?_
   rintro L ac wx hL hd ⟨p1_10, p1_11, rfl, hG, f10, f11, s12, s13, g10_11⟩
   obtain ⟨e0, -⟩ := hd
   have HL := (HB).grl hG n0
   refine wp_pT (v0 := .int .u64 (iv b.tv)) (v1 := .int .u64 (iv b.tm)) rfl (sel_of (e0 rfl)) (HL) rfl rfl ?_
   exact ⟨p1_10, p1_11, rfl, hG, f10, f11, s12, s13, g10_11⟩
  refine allOps_cons 9 ?_ ?_
  ·refine kF rfl ?_
   rintro L ac wx hL hd ⟨p1_10, p1_11, rfl, hG, f10, f11, s12, s13, g10_11⟩
   obtain ⟨e0, e1, -⟩ := hd
   refine wp_call1 rfl (sel_of (e0 rfl)) (by go_simp) ?_
   refine ((fun w => k_lowerBits b.tv b.tm w) _).mono ?_
   rintro e w1 ⟨rfl, hg⟩
   refine ⟨_, rfl, ?_⟩
   exact ⟨p1_10, p1_11, rfl, hG.then hg, fun h => ⟨(f10 h).1, (f10 h).2.gr hg⟩, fun h => ⟨(f11 h).1, (f11 h).2.gr hg⟩, s12, s13, g10_11⟩
  refine allOps_cons 10 ?_ ?_
  ·refine kF rfl ?_
   rintro L ac wx hL hd ⟨p1_10, p1_11, rfl, hG, f10, f11, s12, s13, g10_11⟩
   have ls : L 12 = false := by
    cases h : L 12 with
    | false => rfl
    | true => have := s12 h; rw [hL] at this; cases this
   refine wp_allocT rfl ?_
   intro w1 hn hg
   exact ⟨wx.heap.size, p1_11, rfl, hG.then hg, fun _ => ⟨hG.size, by rw [show upd L 10 12 = false from ls]; exact hn⟩, fun h => ⟨(f11 h).1, (f11 h).2.gr hg⟩, fun _ => rfl, s13, fun _ h => by have z := (f11 h).2.lt; omega⟩
  refine allOps_cons 11 ?_ ?_
  ·refine kF rfl ?_
   rintro L ac wx hL hd ⟨p1_10, p1_11, rfl, hG, f10, f11, s12, s13, g10_11⟩
   have ls : L 13 = false := by
    cases h : L 13 with
    | false => rfl
    | true => have := s13 h; rw [hL] at this; cases this
   refine wp_allocT rfl ?_
   intro w1 hn hg
   exact ⟨p1_10, wx.heap.size, rfl, hG.then hg, fun h => ⟨(f10 h).1, (f10 h).2.gr hg⟩, fun _ => ⟨hG.size, by rw [show upd L 11 13 = false from ls]; exact hn⟩, s12, fun _ => rfl, fun h _ => by have z := (f10 h).2.lt; omega⟩
  refine allOps_cons 12 ?_ ?_
  ·refine kF rfl ?_
   rintro L ac wx hL hd ⟨p1_10, p1_11, rfl, hG, f10, f11, s12, s13, g10_11⟩
   obtain ⟨e0, e1, e2, e3, e4, e5, e6, e7, e8, e9, e10, e11, e12, e13, e14, -⟩ := hd
   have lp : L 10 = true := e0 rfl
   obtain ⟨k10, z10⟩ := f10 lp
   have HL := z10; rw [hL] at HL
   refine wp_storeT rfl (sel_of (e0 rfl)) (sel_of (e1 rfl)) HL ?_
   intro w1 hn hgx
   exact ⟨p1_10, p1_11, rfl, hG.thenx hgx (.inr k10), fun _ => ⟨k10, hn⟩, fun h => ⟨(f11 h).1, (f11 h).2.grx hgx (Ne.symm (g10_11 lp h))⟩, fun _ => lp, s13, g10_11⟩
  refine allOps_cons 13 ?_ ?_
  ·refine kF rfl ?_
   rintro L ac wx hL hd ⟨p1_10, p1_11, rfl, hG, f10, f11, s12, s13, g10_11⟩
   obtain ⟨e0, e1, e2, e3, e4, e5, e6, e7, e8, e9, e10, e11, e12, e13, e14, e15, -⟩ := hd
   have lp : L 11 = true := e0 rfl
   obtain ⟨k11, z11⟩ := f11 lp
   have HL := z11; rw [hL] at HL
   refine wp_storeT rfl (sel_of (e0 rfl)) (sel_of (e1 rfl)) HL ?_
   intro w1 hn hgx
   exact ⟨p1_10, p1_11, rfl, hG.thenx hgx (.inr k11), fun h => ⟨(f10 h).1, (f10 h).2.grx hgx (g10_11 h lp)⟩, fun _ => ⟨k11, hn⟩, s12, fun _ => lp, g10_11⟩
  exact allOps_nil 14
 case fin =>
  rintro L ac wf1 hall ⟨p1_10, p1_11, rfl, hG1, f10, f11, s12, s13, g10_11⟩
  have l0 : L 0 = true := hall 0 (by decide)
  have l1 : L 1 = true := hall 1 (by decide)
  have l2 : L 2 = true := hall 2 (by decide)
  have l3 : L 3 = true := hall 3 (by decide)
  have l4 : L 4 = true := hall 4 (by decide)
  have l5 : L 5 = true := hall 5 (by decide)
  have l6 : L 6 = true := hall 6 (by decide)
  have l7 : L 7 = true := hall 7 (by decide)
  have l8 : L 8 = true := hall 8 (by decide)
  have l9 : L 9 = true := hall 9 (by decide)
  have l10 : L 10 = true := hall 10 (by decide)
  have l11 : L 11 = true := hall 11 (by decide)
  have l12 : L 12 = true := hall 12 (by decide)
  have l13 : L 13 = true := hall 13 (by decide)
  obtain ⟨kp1_10, zp1_10⟩ := f10 l10
  rw [l12] at zp1_10
  change AtA wf1 p1_10 (#[.int .u64 (iv (lowT a.tv)), .int .u64 (iv (lowT a.tm ||| hiM))]) 24 at zp1_10
  obtain ⟨kp1_11, zp1_11⟩ := f11 l11
  rw [l13] at zp1_11
  change AtA wf1 p1_11 (#[.int .u64 (iv (lowT b.tv)), .int .u64 (iv (lowT b.tm ||| hiM))]) 24 at zp1_11
  have np1_10_p1_11 := g10_11 l10 l11
  simp only [l0, l1, l2, l3, l4, l5, l6, l7, l8, l9, l10, l11, sel_t]
  have np_p1_10 : p ≠ p1_10 := Nat.ne_of_lt (Nat.lt_of_lt_of_le (HA).lt kp1_10)
  have np_p1_11 : p ≠ p1_11 := Nat.ne_of_lt (Nat.lt_of_lt_of_le (HA).lt kp1_11)
  have nq_p1_10 : q ≠ p1_10 := Nat.ne_of_lt (Nat.lt_of_lt_of_le (HB).lt kp1_10)
  have nq_p1_11 : q ≠ p1_11 := Nat.ne_of_lt (Nat.lt_of_lt_of_le (HB).lt kp1_11)
  have frp1_10 := Nat.le_trans (GrL.refl [p, q] w).size kp1_10
  have frp1_11 := Nat.le_trans (GrL.refl [p, q] w).size kp1_11
  have hp_c1 := (HA).grl hG1 n0
  have hq_c1 := (HB).grl hG1 n0
  have hF_c1 := (GrL.refl [p, q] w).app hG1 (r0 )
  clear l0 l1 l2 l3 l4 l5 l6 l7 l8 l9 l10 l11 l12 l13 hall f10 f11 s12 s13 g10_11
  go_upto_region 2 with fail
  refine wp_region_inv (by kernel_rfl) (fun L ac wx => ∃ (p2_18 : Nat) (p2_19 : Nat), ac = ⟨(.pointer (some ⟨p, 0, none⟩) :: .pointer (some ⟨q, 0, none⟩) :: undef :: undef :: .bool false :: .pointer (some ⟨p1_10, 0, none⟩) :: .pointer (some ⟨p1_11, 0, none⟩) :: sel (L 18) (.pointer (some ⟨p2_18, 0, none⟩)) (undef) :: sel (L 19) (.pointer (some ⟨p2_19, 0, none⟩)) (undef) :: .pointer (some ⟨p, 0, none⟩) :: .pointer (some ⟨p, 0, none⟩) :: .pointer (some ⟨p, 0, none⟩) :: .agg #[.int .u64 (iv a.tv), .int .u64 (iv a.tm)] :: .agg #[.int .u64 (iv (lowT a.tv)), .int .u64 (iv (lowT a.tm ||| hiM))] :: .pointer (some ⟨q, 0, none⟩) :: .pointer (some ⟨q, 0, none⟩) :: .pointer (some ⟨q, 0, none⟩) :: .agg #[.int .u64 (iv b.tv), .int .u64 (iv b.tm)] :: .agg #[.int .u64 (iv (lowT b.tv)), .int .u64 (iv (lowT b.tm ||| hiM))] :: sel (L 0) (.pointer (some ⟨p, 0, none⟩)) (undef) :: sel (L 1) (.pointer (some ⟨p, 0, none⟩)) (undef) :: sel (L 2) (.pointer (some ⟨p, 6, none⟩)) (undef) :: sel (L 3) (.agg #[.int .u64 a.wl, .int .u64 a.wh]) (undef) :: sel (L 4) (.pointer (some ⟨q, 0, none⟩)) (undef) :: sel (L 5) (.pointer (some ⟨q, 0, none⟩)) (undef) :: sel (L 6) (.pointer (some ⟨q, 6, none⟩)) (undef) :: sel (L 7) (.agg #[.int .u64 b.wl, .int .u64 b.wh]) (undef) :: sel (L 8) (.agg #[.int .u64 (meetP a b).wl, .int .u64 (meetP a b).wh]) (undef) :: sel (L 9) (.pointer (some ⟨p, 0, none⟩)) (undef) :: sel (L 10) (.pointer (some ⟨p, 0, none⟩)) (undef) :: sel (L 11) (.pointer (some ⟨p, 8, none⟩)) (undef) :: sel (L 12) (.agg #[.int .i64 a.vl, .int .i64 a.vh]) (undef) :: sel (L 13) (.pointer (some ⟨q, 0, none⟩)) (undef) :: sel (L 14) (.pointer (some ⟨q, 0, none⟩)) (undef) :: sel (L 15) (.pointer (some ⟨q, 8, none⟩)) (undef) :: sel (L 16) (.agg #[.int .i64 b.vl, .int .i64 b.vh]) (undef) :: sel (L 17) (.agg #[.int .i64 (meetP a b).vl, .int .i64 (meetP a b).vh]) (undef) :: undef :: undef :: undef :: undef :: undef :: undef :: undef :: undef :: undef :: undef :: undef :: undef :: undef :: undef :: undef :: undef :: undef :: undef :: undef :: undef :: undef :: undef :: undef :: undef :: undef :: undef :: undef :: undef :: [] : List Value).toArray, []⟩ ∧ GrL [] wf1 wx ∧ (L 18 = true → wf1.heap.size ≤ p2_18 ∧ AtA wx p2_18 (sel (L 20) (#[.int .u64 (meetP a b).wl, .int .u64 (meetP a b).wh]) (#[.int .u64 0, .int .u64 0])) 26) ∧ (L 19 = true → wf1.heap.size ≤ p2_19 ∧ AtA wx p2_19 (sel (L 21) (#[.int .i64 (meetP a b).vl, .int .i64 (meetP a b).vh]) (#[.int .i64 0, .int .i64 0])) 28) ∧ (L 20 = true → L 18 = true) ∧ (L 21 = true → L 19 = true) ∧ (L 18 = true → L 19 = true → p2_18 ≠ p2_19)) (by kernel_rfl) ?h0 ?step ?fin
  case h0 => exact ⟨0, 0, rfl, GrL.of (Gr.drew (Gr.refl _)), (fun h => by cases h), (fun h => by cases h), (fun h => by cases h), (fun h => by cases h), (fun h => by cases h)⟩
  case step =>
   refine allOps_cons 0 ?_ ?_
   ·refine kF rfl ?_
    rintro L ac wx hL hd ⟨p2_18, p2_19, rfl, hG, f18, f19, s20, s21, g18_19⟩
    refine wM (v := .pointer (some ⟨p, 0, none⟩)) rfl rfl ?_
    exact ⟨p2_18, p2_19, rfl, hG, f18, f19, s20, s21, g18_19⟩
   refine allOps_cons 1 ?_ ?_
   ·refine kF rfl ?_
    rintro L ac wx hL hd ⟨p2_18, p2_19, rfl, hG, f18, f19, s20, s21, g18_19⟩
    obtain ⟨e0, -⟩ := hd
    refine wp_nil (r := ⟨p, 0, none⟩) rfl (sel_of (e0 rfl)) ?_
    exact ⟨p2_18, p2_19, rfl, hG, f18, f19, s20, s21, g18_19⟩
   refine allOps_cons 2 ?_ ?_
   ·refine kF rfl ?_
    rintro L ac wx hL hd ⟨p2_18, p2_19, rfl, hG, f18, f19, s20, s21, g18_19⟩
    obtain ⟨e0, -⟩ := hd
    refine wp_fa3 rfl (sel_of (e0 rfl)) ?_
    exact ⟨p2_18, p2_19, rfl, hG, f18, f19, s20, s21, g18_19⟩
   refine allOps_cons 3 ?_ ?_
   ·refine kF rfl ?_
    rintro L ac wx hL hd ⟨p2_18, p2_19, rfl, hG, f18, f19, s20, s21, g18_19⟩
    obtain ⟨e0, -⟩ := hd
    have HL := (hp_c1).grl hG n0
    refine wp_pU (v0 := .int .u64 a.wl) (v1 := .int .u64 a.wh) rfl (sel_of (e0 rfl)) (HL) rfl rfl ?_
    exact ⟨p2_18, p2_19, rfl, hG, f18, f19, s20, s21, g18_19⟩
   refine allOps_cons 4 ?_ ?_
   ·refine kF rfl ?_
    rintro L ac wx hL hd ⟨p2_18, p2_19, rfl, hG, f18, f19, s20, s21, g18_19⟩
    refine wM (v := .pointer (some ⟨q, 0, none⟩)) rfl rfl ?_
    exact ⟨p2_18, p2_19, rfl, hG, f18, f19, s20, s21, g18_19⟩
   refine allOps_cons 5 ?_ ?_
   ·refine kF rfl ?_
    rintro L ac wx hL hd ⟨p2_18, p2_19, rfl, hG, f18, f19, s20, s21, g18_19⟩
    obtain ⟨e0, -⟩ := hd
    refine wp_nil (r := ⟨q, 0, none⟩) rfl (sel_of (e0 rfl)) ?_
    exact ⟨p2_18, p2_19, rfl, hG, f18, f19, s20, s21, g18_19⟩
   refine allOps_cons 6 ?_ ?_
   ·refine kF rfl ?_
    rintro L ac wx hL hd ⟨p2_18, p2_19, rfl, hG, f18, f19, s20, s21, g18_19⟩
    obtain ⟨e0, -⟩ := hd
    refine wp_fa3 rfl (sel_of (e0 rfl)) ?_
    exact ⟨p2_18, p2_19, rfl, hG, f18, f19, s20, s21, g18_19⟩
   refine allOps_cons 7 ?_ ?_
   ·refine kF rfl ?_
    rintro L ac wx hL hd ⟨p2_18, p2_19, rfl, hG, f18, f19, s20, s21, g18_19⟩
    obtain ⟨e0, -⟩ := hd
    have HL := (hq_c1).grl hG n0
    refine wp_pU (v0 := .int .u64 b.wl) (v1 := .int .u64 b.wh) rfl (sel_of (e0 rfl)) (HL) rfl rfl ?_
    exact ⟨p2_18, p2_19, rfl, hG, f18, f19, s20, s21, g18_19⟩
   refine allOps_cons 8 ?_ ?_
   ·refine kF rfl ?_
    rintro L ac wx hL hd ⟨p2_18, p2_19, rfl, hG, f18, f19, s20, s21, g18_19⟩
    obtain ⟨e0, e1, -⟩ := hd
    refine wp_call2 rfl (sel_of (e0 rfl)) (sel_of (e1 rfl)) (by go_simp) ?_
    refine ((fun w => meet_u a.wl a.wh b.wl b.wh w) _).mono ?_
    rintro e w1 ⟨rfl, hg⟩
    refine ⟨_, rfl, ?_⟩
    exact ⟨p2_18, p2_19, rfl, hG.then hg, fun h => ⟨(f18 h).1, (f18 h).2.gr hg⟩, fun h => ⟨(f19 h).1, (f19 h).2.gr hg⟩, s20, s21, g18_19⟩
   refine allOps_cons 9 ?_ ?_
   ·refine kF rfl ?_
    rintro L ac wx hL hd ⟨p2_18, p2_19, rfl, hG, f18, f19, s20, s21, g18_19⟩
    refine wM (v := .pointer (some ⟨p, 0, none⟩)) rfl rfl ?_
    exact ⟨p2_18, p2_19, rfl, hG, f18, f19, s20, s21, g18_19⟩
   refine allOps_cons 10 ?_ ?_
   ·refine kF rfl ?_
    rintro L ac wx hL hd ⟨p2_18, p2_19, rfl, hG, f18, f19, s20, s21, g18_19⟩
    obtain ⟨e0, -⟩ := hd
    refine wp_nil (r := ⟨p, 0, none⟩) rfl (sel_of (e0 rfl)) ?_
    exact ⟨p2_18, p2_19, rfl, hG, f18, f19, s20, s21, g18_19⟩
   refine allOps_cons 11 ?_ ?_
   ·refine kF rfl ?_
    rintro L ac wx hL hd ⟨p2_18, p2_19, rfl, hG, f18, f19, s20, s21, g18_19⟩
    obtain ⟨e0, -⟩ := hd
    refine wp_fa4 rfl (sel_of (e0 rfl)) ?_
    exact ⟨p2_18, p2_19, rfl, hG, f18, f19, s20, s21, g18_19⟩
   refine allOps_cons 12 ?_ ?_
   ·refine kF rfl ?_
    rintro L ac wx hL hd ⟨p2_18, p2_19, rfl, hG, f18, f19, s20, s21, g18_19⟩
    obtain ⟨e0, -⟩ := hd
    have HL := (hp_c1).grl hG n0
    refine wp_pS (v0 := .int .i64 a.vl) (v1 := .int .i64 a.vh) rfl (sel_of (e0 rfl)) (HL) rfl rfl ?_
    exact ⟨p2_18, p2_19, rfl, hG, f18, f19, s20, s21, g18_19⟩
   refine allOps_cons 13 ?_ ?_
   ·refine kF rfl ?_
    rintro L ac wx hL hd ⟨p2_18, p2_19, rfl, hG, f18, f19, s20, s21, g18_19⟩
    refine wM (v := .pointer (some ⟨q, 0, none⟩)) rfl rfl ?_
    exact ⟨p2_18, p2_19, rfl, hG, f18, f19, s20, s21, g18_19⟩
   refine allOps_cons 14 ?_ ?_
   ·refine kF rfl ?_
    rintro L ac wx hL hd ⟨p2_18, p2_19, rfl, hG, f18, f19, s20, s21, g18_19⟩
    obtain ⟨e0, -⟩ := hd
    refine wp_nil (r := ⟨q, 0, none⟩) rfl (sel_of (e0 rfl)) ?_
    exact ⟨p2_18, p2_19, rfl, hG, f18, f19, s20, s21, g18_19⟩
   refine allOps_cons 15 ?_ ?_
   ·refine kF rfl ?_
    rintro L ac wx hL hd ⟨p2_18, p2_19, rfl, hG, f18, f19, s20, s21, g18_19⟩
    obtain ⟨e0, -⟩ := hd
    refine wp_fa4 rfl (sel_of (e0 rfl)) ?_
    exact ⟨p2_18, p2_19, rfl, hG, f18, f19, s20, s21, g18_19⟩
   refine allOps_cons 16 ?_ ?_
   ·refine kF rfl ?_
    rintro L ac wx hL hd ⟨p2_18, p2_19, rfl, hG, f18, f19, s20, s21, g18_19⟩
    obtain ⟨e0, -⟩ := hd
    have HL := (hq_c1).grl hG n0
    refine wp_pS (v0 := .int .i64 b.vl) (v1 := .int .i64 b.vh) rfl (sel_of (e0 rfl)) (HL) rfl rfl ?_
    exact ⟨p2_18, p2_19, rfl, hG, f18, f19, s20, s21, g18_19⟩
   refine allOps_cons 17 ?_ ?_
   ·refine kF rfl ?_
    rintro L ac wx hL hd ⟨p2_18, p2_19, rfl, hG, f18, f19, s20, s21, g18_19⟩
    obtain ⟨e0, e1, e2, -⟩ := hd
    refine wp_call2 rfl (sel_of (e0 rfl)) (sel_of (e1 rfl)) (by go_simp) ?_
    refine ((fun w => meet_s a.vl a.vh b.vl b.vh w) _).mono ?_
    rintro e w1 ⟨rfl, hg⟩
    refine ⟨_, rfl, ?_⟩
    exact ⟨p2_18, p2_19, rfl, hG.then hg, fun h => ⟨(f18 h).1, (f18 h).2.gr hg⟩, fun h => ⟨(f19 h).1, (f19 h).2.gr hg⟩, s20, s21, g18_19⟩
   refine allOps_cons 18 ?_ ?_
   ·refine kF rfl ?_
    rintro L ac wx hL hd ⟨p2_18, p2_19, rfl, hG, f18, f19, s20, s21, g18_19⟩
    have ls : L 20 = false := by
     cases h : L 20 with
     | false => rfl
     | true => have := s20 h; rw [hL] at this; cases this
    refine wp_al_S rfl ?_
    intro w1 hn hg
    exact ⟨wx.heap.size, p2_19, rfl, hG.then hg, fun _ => ⟨hG.size, by rw [show upd L 18 20 = false from ls]; exact hn⟩, fun h => ⟨(f19 h).1, (f19 h).2.gr hg⟩, fun _ => rfl, s21, fun _ h => by have z := (f19 h).2.lt; omega⟩
   refine allOps_cons 19 ?_ ?_
   ·refine kF rfl ?_
    rintro L ac wx hL hd ⟨p2_18, p2_19, rfl, hG, f18, f19, s20, s21, g18_19⟩
    have ls : L 21 = false := by
     cases h : L 21 with
     | false => rfl
     | true => have := s21 h; rw [hL] at this; cases this
    refine wp_al_R rfl ?_
    intro w1 hn hg
    exact ⟨p2_18, wx.heap.size, rfl, hG.then hg, fun h => ⟨(f18 h).1, (f18 h).2.gr hg⟩, fun _ => ⟨hG.size, by rw [show upd L 19 21 = false from ls]; exact hn⟩, s20, fun _ => rfl, fun h _ => by have z := (f18 h).2.lt; omega⟩
   refine allOps_cons 20 ?_ ?_
   ·refine kF rfl ?_
    rintro L ac wx hL hd ⟨p2_18, p2_19, rfl, hG, f18, f19, s20, s21, g18_19⟩
    obtain ⟨e0, e1, e2, e3, e4, e5, e6, e7, e8, e9, e10, e11, e12, e13, e14, e15, e16, e17, e18, e19, e20, e21, e22, -⟩ := hd
    have lp : L 18 = true := e0 rfl
    obtain ⟨k18, z18⟩ := f18 lp
    have HL := z18; rw [hL] at HL
    refine wp_storeU rfl (sel_of (e0 rfl)) (sel_of (e1 rfl)) HL ?_
    intro w1 hn hgx
    exact ⟨p2_18, p2_19, rfl, hG.thenx hgx (.inr k18), fun _ => ⟨k18, hn⟩, fun h => ⟨(f19 h).1, (f19 h).2.grx hgx (Ne.symm (g18_19 lp h))⟩, fun _ => lp, s21, g18_19⟩
   refine allOps_cons 21 ?_ ?_
   ·refine kF rfl ?_
    rintro L ac wx hL hd ⟨p2_18, p2_19, rfl, hG, f18, f19, s20, s21, g18_19⟩
    obtain ⟨e0, e1, e2, e3, e4, e5, e6, e7, e8, e9, e10, e11, e12, e13, e14, e15, e16, e17, e18, e19, e20, e21, e22, e23, -⟩ := hd
    have lp : L 19 = true := e0 rfl
    obtain ⟨k19, z19⟩ := f19 lp
    have HL := z19; rw [hL] at HL
    refine wp_storeS rfl (sel_of (e0 rfl)) (sel_of (e1 rfl)) HL ?_
    intro w1 hn hgx
    exact ⟨p2_18, p2_19, rfl, hG.thenx hgx (.inr k19), fun h => ⟨(f18 h).1, (f18 h).2.grx hgx (g18_19 h lp)⟩, fun _ => ⟨k19, hn⟩, s20, fun _ => lp, g18_19⟩
   exact allOps_nil 22
  case fin =>
   rintro L ac wf2 hall ⟨p2_18, p2_19, rfl, hG2, f18, f19, s20, s21, g18_19⟩
   have l0 : L 0 = true := hall 0 (by decide)
   have l1 : L 1 = true := hall 1 (by decide)
   have l2 : L 2 = true := hall 2 (by decide)
   have l3 : L 3 = true := hall 3 (by decide)
   have l4 : L 4 = true := hall 4 (by decide)
   have l5 : L 5 = true := hall 5 (by decide)
   have l6 : L 6 = true := hall 6 (by decide)
   have l7 : L 7 = true := hall 7 (by decide)
   have l8 : L 8 = true := hall 8 (by decide)
   have l9 : L 9 = true := hall 9 (by decide)
   have l10 : L 10 = true := hall 10 (by decide)
   have l11 : L 11 = true := hall 11 (by decide)
   have l12 : L 12 = true := hall 12 (by decide)
   have l13 : L 13 = true := hall 13 (by decide)
   have l14 : L 14 = true := hall 14 (by decide)
   have l15 : L 15 = true := hall 15 (by decide)
   have l16 : L 16 = true := hall 16 (by decide)
   have l17 : L 17 = true := hall 17 (by decide)
   have l18 : L 18 = true := hall 18 (by decide)
   have l19 : L 19 = true := hall 19 (by decide)
   have l20 : L 20 = true := hall 20 (by decide)
   have l21 : L 21 = true := hall 21 (by decide)
   obtain ⟨kp2_18, zp2_18⟩ := f18 l18
   rw [l20] at zp2_18
   change AtA wf2 p2_18 (#[.int .u64 (meetP a b).wl, .int .u64 (meetP a b).wh]) 26 at zp2_18
   obtain ⟨kp2_19, zp2_19⟩ := f19 l19
   rw [l21] at zp2_19
   change AtA wf2 p2_19 (#[.int .i64 (meetP a b).vl, .int .i64 (meetP a b).vh]) 28 at zp2_19
   have np2_18_p2_19 := g18_19 l18 l19
   simp only [l0, l1, l2, l3, l4, l5, l6, l7, l8, l9, l10, l11, l12, l13, l14, l15, l16, l17, l18, l19, sel_t]
   have np_p2_18 : p ≠ p2_18 := Nat.ne_of_lt (Nat.lt_of_lt_of_le (hp_c1).lt kp2_18)
   have np_p2_19 : p ≠ p2_19 := Nat.ne_of_lt (Nat.lt_of_lt_of_le (hp_c1).lt kp2_19)
   have nq_p2_18 : q ≠ p2_18 := Nat.ne_of_lt (Nat.lt_of_lt_of_le (hq_c1).lt kp2_18)
   have nq_p2_19 : q ≠ p2_19 := Nat.ne_of_lt (Nat.lt_of_lt_of_le (hq_c1).lt kp2_19)
   have np1_10_p2_18 : p1_10 ≠ p2_18 := Nat.ne_of_lt (Nat.lt_of_lt_of_le (zp1_10).lt kp2_18)
   have np1_10_p2_19 : p1_10 ≠ p2_19 := Nat.ne_of_lt (Nat.lt_of_lt_of_le (zp1_10).lt kp2_19)
   have np1_11_p2_18 : p1_11 ≠ p2_18 := Nat.ne_of_lt (Nat.lt_of_lt_of_le (zp1_11).lt kp2_18)
   have np1_11_p2_19 : p1_11 ≠ p2_19 := Nat.ne_of_lt (Nat.lt_of_lt_of_le (zp1_11).lt kp2_19)
   have frp2_18 := Nat.le_trans (hF_c1).size kp2_18
   have frp2_19 := Nat.le_trans (hF_c1).size kp2_19
   have hp_c2 := (hp_c1).grl hG2 n0
   have hq_c2 := (hq_c1).grl hG2 n0
   have hp1_10_c2 := (zp1_10).grl hG2 n0
   have hp1_11_c2 := (zp1_11).grl hG2 n0
   have hF_c2 := (hF_c1).app hG2 (r0 )
   clear l0 l1 l2 l3 l4 l5 l6 l7 l8 l9 l10 l11 l12 l13 l14 l15 l16 l17 l18 l19 l20 l21 hall f18 f19 s20 s21 g18_19
   go_upto_region 3 with fail
   refine wp_region_inv (by kernel_rfl) (fun L ac wx =>  ac = ⟨(.pointer (some ⟨p, 0, none⟩) :: .pointer (some ⟨q, 0, none⟩) :: undef :: undef :: .bool false :: .pointer (some ⟨p1_10, 0, none⟩) :: .pointer (some ⟨p1_11, 0, none⟩) :: .pointer (some ⟨p2_18, 0, none⟩) :: .pointer (some ⟨p2_19, 0, none⟩) :: .pointer (some ⟨p, 0, none⟩) :: .pointer (some ⟨p, 0, none⟩) :: .pointer (some ⟨p, 0, none⟩) :: .agg #[.int .u64 (iv a.tv), .int .u64 (iv a.tm)] :: .agg #[.int .u64 (iv (lowT a.tv)), .int .u64 (iv (lowT a.tm ||| hiM))] :: .pointer (some ⟨q, 0, none⟩) :: .pointer (some ⟨q, 0, none⟩) :: .pointer (some ⟨q, 0, none⟩) :: .agg #[.int .u64 (iv b.tv), .int .u64 (iv b.tm)] :: .agg #[.int .u64 (iv (lowT b.tv)), .int .u64 (iv (lowT b.tm ||| hiM))] :: .pointer (some ⟨p, 0, none⟩) :: .pointer (some ⟨p, 0, none⟩) :: .pointer (some ⟨p, 6, none⟩) :: .agg #[.int .u64 a.wl, .int .u64 a.wh] :: .pointer (some ⟨q, 0, none⟩) :: .pointer (some ⟨q, 0, none⟩) :: .pointer (some ⟨q, 6, none⟩) :: .agg #[.int .u64 b.wl, .int .u64 b.wh] :: .agg #[.int .u64 (meetP a b).wl, .int .u64 (meetP a b).wh] :: .pointer (some ⟨p, 0, none⟩) :: .pointer (some ⟨p, 0, none⟩) :: .pointer (some ⟨p, 8, none⟩) :: .agg #[.int .i64 a.vl, .int .i64 a.vh] :: .pointer (some ⟨q, 0, none⟩) :: .pointer (some ⟨q, 0, none⟩) :: .pointer (some ⟨q, 8, none⟩) :: .agg #[.int .i64 b.vl, .int .i64 b.vh] :: .agg #[.int .i64 (meetP a b).vl, .int .i64 (meetP a b).vh] :: sel (L 0) (.pointer (some ⟨p, 0, none⟩)) (undef) :: sel (L 1) (.pointer (some ⟨q, 0, none⟩)) (undef) :: sel (L 2) (.agg #[.int .u64 (meetP a b).wl, .int .u64 (meetP a b).wh]) (undef) :: sel (L 3) (.agg #[.int .u64 (meetP a b).wl, .int .u64 (meetP a b).wh]) (undef) :: sel (L 4) (.pointer (some ⟨p, 0, none⟩)) (undef) :: sel (L 5) (.pointer (some ⟨p, 6, none⟩)) (undef) :: sel (L 7) (.pointer (some ⟨q, 0, none⟩)) (undef) :: sel (L 8) (.pointer (some ⟨q, 6, none⟩)) (undef) :: undef :: undef :: undef :: undef :: undef :: undef :: undef :: undef :: undef :: undef :: undef :: undef :: undef :: undef :: undef :: undef :: undef :: undef :: undef :: undef :: [] : List Value).toArray, []⟩ ∧ GrL [p, q] wf2 wx ∧ AtA wx p (sel (L 6) (bv { a with wl := (meetP a b).wl, wh := (meetP a b).wh }) (bv a)) 30 ∧ AtA wx q (sel (L 9) (bv { b with wl := (meetP a b).wl, wh := (meetP a b).wh }) (bv b)) 30) (by kernel_rfl) ?h0 ?step ?fin
   case h0 => exact ⟨rfl, GrL.of (Gr.drew (Gr.refl _)), (hp_c2).drew, (hq_c2).drew⟩
   case step =>
    refine allOps_cons 0 ?_ ?_
    ·refine kF rfl ?_
     rintro L ac wx hL hd ⟨rfl, hG, Ap, Aq⟩
     refine wM (v := .pointer (some ⟨p, 0, none⟩)) rfl rfl ?_
     exact ⟨rfl, hG, Ap, Aq⟩
    refine allOps_cons 1 ?_ ?_
    ·refine kF rfl ?_
     rintro L ac wx hL hd ⟨rfl, hG, Ap, Aq⟩
     obtain ⟨e0, -⟩ := hd
     refine wM (v := .pointer (some ⟨q, 0, none⟩)) rfl rfl ?_
     exact ⟨rfl, hG, Ap, Aq⟩
    refine allOps_cons 2 ?_ ?_
    ·refine kF rfl ?_
     rintro L ac wx hL hd ⟨rfl, hG, Ap, Aq⟩
     have HL := (zp2_18).grl hG (n2 (Ne.symm np_p2_18) (Ne.symm nq_p2_18))
     refine wp_pU (v0 := .int .u64 (meetP a b).wl) (v1 := .int .u64 (meetP a b).wh) rfl rfl (HL) rfl rfl ?_
     exact ⟨rfl, hG, Ap, Aq⟩
    refine allOps_cons 3 ?_ ?_
    ·refine kF rfl ?_
     rintro L ac wx hL hd ⟨rfl, hG, Ap, Aq⟩
     obtain ⟨e0, -⟩ := hd
     have HL := (zp2_18).grl hG (n2 (Ne.symm np_p2_18) (Ne.symm nq_p2_18))
     refine wp_pU (v0 := .int .u64 (meetP a b).wl) (v1 := .int .u64 (meetP a b).wh) rfl rfl (HL) rfl rfl ?_
     exact ⟨rfl, hG, Ap, Aq⟩
    refine allOps_cons 4 ?_ ?_
    ·refine kF rfl ?_
     rintro L ac wx hL hd ⟨rfl, hG, Ap, Aq⟩
     obtain ⟨e0, e1, e2, e3, e4, -⟩ := hd
     refine wp_nil (r := ⟨p, 0, none⟩) rfl (sel_of (e0 rfl)) ?_
     exact ⟨rfl, hG, Ap, Aq⟩
    refine allOps_cons 5 ?_ ?_
    ·refine kF rfl ?_
     rintro L ac wx hL hd ⟨rfl, hG, Ap, Aq⟩
     obtain ⟨e0, e1, e2, e3, e4, -⟩ := hd
     refine wp_fa3 rfl (sel_of (e0 rfl)) ?_
     exact ⟨rfl, hG, Ap, Aq⟩
    refine allOps_cons 6 ?_ ?_
    ·refine kF rfl ?_
     rintro L ac wx hL hd ⟨rfl, hG, Ap, Aq⟩
     obtain ⟨e0, e1, e2, e3, e4, e5, -⟩ := hd
     have HL := Ap; rw [hL] at HL
     refine wp_stW rfl (sel_of (e0 rfl)) (sel_of (e1 rfl)) HL ?_
     intro w1 hn hgx
     exact ⟨rfl, hG.thenx hgx (.inl m21), hn, Aq.grx hgx (Ne.symm hpq)⟩
    refine allOps_cons 7 ?_ ?_
    ·refine kF rfl ?_
     rintro L ac wx hL hd ⟨rfl, hG, Ap, Aq⟩
     obtain ⟨e0, e1, e2, e3, e4, e5, e6, e7, -⟩ := hd
     refine wp_nil (r := ⟨q, 0, none⟩) rfl (sel_of (e0 rfl)) ?_
     exact ⟨rfl, hG, Ap, Aq⟩
    refine allOps_cons 8 ?_ ?_
    ·refine kF rfl ?_
     rintro L ac wx hL hd ⟨rfl, hG, Ap, Aq⟩
     obtain ⟨e0, e1, e2, e3, e4, e5, e6, e7, -⟩ := hd
     refine wp_fa3 rfl (sel_of (e0 rfl)) ?_
     exact ⟨rfl, hG, Ap, Aq⟩
    refine allOps_cons 9 ?_ ?_
    ·refine kF rfl ?_
     rintro L ac wx hL hd ⟨rfl, hG, Ap, Aq⟩
     obtain ⟨e0, e1, e2, e3, e4, e5, e6, e7, e8, e9, -⟩ := hd
     have HL := Aq; rw [hL] at HL
     refine wp_stW rfl (sel_of (e0 rfl)) (sel_of (e1 rfl)) HL ?_
     intro w1 hn hgx
     exact ⟨rfl, hG.thenx hgx (.inl m22), Ap.grx hgx hpq, hn⟩
    exact allOps_nil 10
   case fin =>
    rintro L ac wf3 hall ⟨rfl, hG3, B3p, B3q⟩
    have l0 : L 0 = true := hall 0 (by decide)
    have l1 : L 1 = true := hall 1 (by decide)
    have l2 : L 2 = true := hall 2 (by decide)
    have l3 : L 3 = true := hall 3 (by decide)
    have l4 : L 4 = true := hall 4 (by decide)
    have l5 : L 5 = true := hall 5 (by decide)
    have l6 : L 6 = true := hall 6 (by decide)
    have l7 : L 7 = true := hall 7 (by decide)
    have l8 : L 8 = true := hall 8 (by decide)
    have l9 : L 9 = true := hall 9 (by decide)
    rw [l6] at B3p
    change AtA wf3 p (bv { a with wl := (meetP a b).wl, wh := (meetP a b).wh }) 30 at B3p
    rw [l9] at B3q
    change AtA wf3 q (bv { b with wl := (meetP a b).wl, wh := (meetP a b).wh }) 30 at B3q
    simp only [l0, l1, l2, l3, l4, l5, l7, l8, sel_t]
    have hp1_10_c3 := (hp1_10_c2).grl hG3 (n2 (Ne.symm np_p1_10) (Ne.symm nq_p1_10))
    have hp1_11_c3 := (hp1_11_c2).grl hG3 (n2 (Ne.symm np_p1_11) (Ne.symm nq_p1_11))
    have hp2_18_c3 := (zp2_18).grl hG3 (n2 (Ne.symm np_p2_18) (Ne.symm nq_p2_18))
    have hp2_19_c3 := (zp2_19).grl hG3 (n2 (Ne.symm np_p2_19) (Ne.symm nq_p2_19))
    have hF_c3 := (hF_c2).app hG3 (r2 (.inl m21) (.inl m22))
    clear l0 l1 l2 l3 l4 l5 l6 l7 l8 l9 hall
    go_upto_region 4 with fail
    refine wp_region_inv (by kernel_rfl) (fun L ac wx =>  ac = ⟨(.pointer (some ⟨p, 0, none⟩) :: .pointer (some ⟨q, 0, none⟩) :: undef :: undef :: .bool false :: .pointer (some ⟨p1_10, 0, none⟩) :: .pointer (some ⟨p1_11, 0, none⟩) :: .pointer (some ⟨p2_18, 0, none⟩) :: .pointer (some ⟨p2_19, 0, none⟩) :: .pointer (some ⟨p, 0, none⟩) :: .pointer (some ⟨p, 0, none⟩) :: .pointer (some ⟨p, 0, none⟩) :: .agg #[.int .u64 (iv a.tv), .int .u64 (iv a.tm)] :: .agg #[.int .u64 (iv (lowT a.tv)), .int .u64 (iv (lowT a.tm ||| hiM))] :: .pointer (some ⟨q, 0, none⟩) :: .pointer (some ⟨q, 0, none⟩) :: .pointer (some ⟨q, 0, none⟩) :: .agg #[.int .u64 (iv b.tv), .int .u64 (iv b.tm)] :: .agg #[.int .u64 (iv (lowT b.tv)), .int .u64 (iv (lowT b.tm ||| hiM))] :: .pointer (some ⟨p, 0, none⟩) :: .pointer (some ⟨p, 0, none⟩) :: .pointer (some ⟨p, 6, none⟩) :: .agg #[.int .u64 a.wl, .int .u64 a.wh] :: .pointer (some ⟨q, 0, none⟩) :: .pointer (some ⟨q, 0, none⟩) :: .pointer (some ⟨q, 6, none⟩) :: .agg #[.int .u64 b.wl, .int .u64 b.wh] :: .agg #[.int .u64 (meetP a b).wl, .int .u64 (meetP a b).wh] :: .pointer (some ⟨p, 0, none⟩) :: .pointer (some ⟨p, 0, none⟩) :: .pointer (some ⟨p, 8, none⟩) :: .agg #[.int .i64 a.vl, .int .i64 a.vh] :: .pointer (some ⟨q, 0, none⟩) :: .pointer (some ⟨q, 0, none⟩) :: .pointer (some ⟨q, 8, none⟩) :: .agg #[.int .i64 b.vl, .int .i64 b.vh] :: .agg #[.int .i64 (meetP a b).vl, .int .i64 (meetP a b).vh] :: .pointer (some ⟨p, 0, none⟩) :: .pointer (some ⟨q, 0, none⟩) :: .agg #[.int .u64 (meetP a b).wl, .int .u64 (meetP a b).wh] :: .agg #[.int .u64 (meetP a b).wl, .int .u64 (meetP a b).wh] :: .pointer (some ⟨p, 0, none⟩) :: .pointer (some ⟨p, 6, none⟩) :: .pointer (some ⟨q, 0, none⟩) :: .pointer (some ⟨q, 6, none⟩) :: sel (L 0) (.pointer (some ⟨p, 0, none⟩)) (undef) :: sel (L 1) (.pointer (some ⟨q, 0, none⟩)) (undef) :: sel (L 2) (.agg #[.int .i64 (meetP a b).vl, .int .i64 (meetP a b).vh]) (undef) :: sel (L 3) (.agg #[.int .i64 (meetP a b).vl, .int .i64 (meetP a b).vh]) (undef) :: sel (L 4) (.pointer (some ⟨p, 0, none⟩)) (undef) :: sel (L 5) (.pointer (some ⟨p, 8, none⟩)) (undef) :: sel (L 7) (.pointer (some ⟨q, 0, none⟩)) (undef) :: sel (L 8) (.pointer (some ⟨q, 8, none⟩)) (undef) :: undef :: undef :: undef :: undef :: undef :: undef :: undef :: undef :: undef :: undef :: undef :: undef :: [] : List Value).toArray, []⟩ ∧ GrL [p, q] wf3 wx ∧ AtA wx p (sel (L 6) (bv { { a with wl := (meetP a b).wl, wh := (meetP a b).wh } with vl := (meetP a b).vl, vh := (meetP a b).vh }) (bv { a with wl := (meetP a b).wl, wh := (meetP a b).wh })) 30 ∧ AtA wx q (sel (L 9) (bv { { b with wl := (meetP a b).wl, wh := (meetP a b).wh } with vl := (meetP a b).vl, vh := (meetP a b).vh }) (bv { b with wl := (meetP a b).wl, wh := (meetP a b).wh })) 30) (by kernel_rfl) ?h0 ?step ?fin
    case h0 => exact ⟨rfl, GrL.of (Gr.drew (Gr.refl _)), (B3p).drew, (B3q).drew⟩
    case step =>
     refine allOps_cons 0 ?_ ?_
     ·refine kF rfl ?_
      rintro L ac wx hL hd ⟨rfl, hG, Ap, Aq⟩
      refine wM (v := .pointer (some ⟨p, 0, none⟩)) rfl rfl ?_
      exact ⟨rfl, hG, Ap, Aq⟩
     refine allOps_cons 1 ?_ ?_
     ·refine kF rfl ?_
      rintro L ac wx hL hd ⟨rfl, hG, Ap, Aq⟩
      obtain ⟨e0, -⟩ := hd
      refine wM (v := .pointer (some ⟨q, 0, none⟩)) rfl rfl ?_
      exact ⟨rfl, hG, Ap, Aq⟩
     refine allOps_cons 2 ?_ ?_
     ·refine kF rfl ?_
      rintro L ac wx hL hd ⟨rfl, hG, Ap, Aq⟩
      have HL := (hp2_19_c3).grl hG (n2 (Ne.symm np_p2_19) (Ne.symm nq_p2_19))
      refine wp_pS (v0 := .int .i64 (meetP a b).vl) (v1 := .int .i64 (meetP a b).vh) rfl rfl (HL) rfl rfl ?_
      exact ⟨rfl, hG, Ap, Aq⟩
     refine allOps_cons 3 ?_ ?_
     ·refine kF rfl ?_
      rintro L ac wx hL hd ⟨rfl, hG, Ap, Aq⟩
      obtain ⟨e0, -⟩ := hd
      have HL := (hp2_19_c3).grl hG (n2 (Ne.symm np_p2_19) (Ne.symm nq_p2_19))
      refine wp_pS (v0 := .int .i64 (meetP a b).vl) (v1 := .int .i64 (meetP a b).vh) rfl rfl (HL) rfl rfl ?_
      exact ⟨rfl, hG, Ap, Aq⟩
     refine allOps_cons 4 ?_ ?_
     ·refine kF rfl ?_
      rintro L ac wx hL hd ⟨rfl, hG, Ap, Aq⟩
      obtain ⟨e0, e1, e2, e3, e4, -⟩ := hd
      refine wp_nil (r := ⟨p, 0, none⟩) rfl (sel_of (e0 rfl)) ?_
      exact ⟨rfl, hG, Ap, Aq⟩
     refine allOps_cons 5 ?_ ?_
     ·refine kF rfl ?_
      rintro L ac wx hL hd ⟨rfl, hG, Ap, Aq⟩
      obtain ⟨e0, e1, e2, e3, e4, -⟩ := hd
      refine wp_fa4 rfl (sel_of (e0 rfl)) ?_
      exact ⟨rfl, hG, Ap, Aq⟩
     refine allOps_cons 6 ?_ ?_
     ·refine kF rfl ?_
      rintro L ac wx hL hd ⟨rfl, hG, Ap, Aq⟩
      obtain ⟨e0, e1, e2, e3, e4, e5, -⟩ := hd
      have HL := Ap; rw [hL] at HL
      refine wp_stV rfl (sel_of (e0 rfl)) (sel_of (e1 rfl)) HL ?_
      intro w1 hn hgx
      exact ⟨rfl, hG.thenx hgx (.inl m21), hn, Aq.grx hgx (Ne.symm hpq)⟩
     refine allOps_cons 7 ?_ ?_
     ·refine kF rfl ?_
      rintro L ac wx hL hd ⟨rfl, hG, Ap, Aq⟩
      obtain ⟨e0, e1, e2, e3, e4, e5, e6, e7, -⟩ := hd
      refine wp_nil (r := ⟨q, 0, none⟩) rfl (sel_of (e0 rfl)) ?_
      exact ⟨rfl, hG, Ap, Aq⟩
     refine allOps_cons 8 ?_ ?_
     ·refine kF rfl ?_
      rintro L ac wx hL hd ⟨rfl, hG, Ap, Aq⟩
      obtain ⟨e0, e1, e2, e3, e4, e5, e6, e7, -⟩ := hd
      refine wp_fa4 rfl (sel_of (e0 rfl)) ?_
      exact ⟨rfl, hG, Ap, Aq⟩
     refine allOps_cons 9 ?_ ?_
     ·refine kF rfl ?_
      rintro L ac wx hL hd ⟨rfl, hG, Ap, Aq⟩
      obtain ⟨e0, e1, e2, e3, e4, e5, e6, e7, e8, e9, -⟩ := hd
      have HL := Aq; rw [hL] at HL
      refine wp_stV rfl (sel_of (e0 rfl)) (sel_of (e1 rfl)) HL ?_
      intro w1 hn hgx
      exact ⟨rfl, hG.thenx hgx (.inl m22), Ap.grx hgx hpq, hn⟩
     exact allOps_nil 10
    case fin =>
     rintro L ac wf4 hall ⟨rfl, hG4, B4p, B4q⟩
     have l0 : L 0 = true := hall 0 (by decide)
     have l1 : L 1 = true := hall 1 (by decide)
     have l2 : L 2 = true := hall 2 (by decide)
     have l3 : L 3 = true := hall 3 (by decide)
     have l4 : L 4 = true := hall 4 (by decide)
     have l5 : L 5 = true := hall 5 (by decide)
     have l6 : L 6 = true := hall 6 (by decide)
     have l7 : L 7 = true := hall 7 (by decide)
     have l8 : L 8 = true := hall 8 (by decide)
     have l9 : L 9 = true := hall 9 (by decide)
     rw [l6] at B4p
     change AtA wf4 p (bv { { a with wl := (meetP a b).wl, wh := (meetP a b).wh } with vl := (meetP a b).vl, vh := (meetP a b).vh }) 30 at B4p
     rw [l9] at B4q
     change AtA wf4 q (bv { { b with wl := (meetP a b).wl, wh := (meetP a b).wh } with vl := (meetP a b).vl, vh := (meetP a b).vh }) 30 at B4q
     simp only [l0, l1, l2, l3, l4, l5, l7, l8, sel_t]
     have hp1_10_c4 := (hp1_10_c3).grl hG4 (n2 (Ne.symm np_p1_10) (Ne.symm nq_p1_10))
     have hp1_11_c4 := (hp1_11_c3).grl hG4 (n2 (Ne.symm np_p1_11) (Ne.symm nq_p1_11))
     have hp2_18_c4 := (hp2_18_c3).grl hG4 (n2 (Ne.symm np_p2_18) (Ne.symm nq_p2_18))
     have hp2_19_c4 := (hp2_19_c3).grl hG4 (n2 (Ne.symm np_p2_19) (Ne.symm nq_p2_19))
     have hF_c4 := (hF_c3).app hG4 (r2 (.inl m21) (.inl m22))
     clear l0 l1 l2 l3 l4 l5 l6 l7 l8 l9 hall
     obtain ⟨X1, hX1⟩ : ∃ X, { { a with wl := (meetP a b).wl, wh := (meetP a b).wh } with vl := (meetP a b).vl, vh := (meetP a b).vh } = X := ⟨_, rfl⟩
     have hhp : AtA wf4 p (bv X1) 30 := hX1 ▸ B4p
     have h1 : Tn.meetX X1.tv X1.tm (lowT b.tv) (lowT b.tm ||| hiM) = false := by rw [← hX1]; exact kh1
     obtain ⟨Y1, hY1⟩ : ∃ Y, ({ X1 with tv := Tn.mtV X1.tv X1.tm (lowT b.tv) (lowT b.tm ||| hiM), tm := Tn.mtM X1.tv X1.tm (lowT b.tv) (lowT b.tm ||| hiM) } : Bd) = Y := ⟨_, rfl⟩
     have kX1 : ∀ w (h : AtA w p (bv X1) 30), Calls Tryz.prog 240 #[.pointer (some ⟨p, 0, none⟩), .agg #[.int .u64 (iv (lowT b.tv)), .int .u64 (iv (lowT b.tm ||| hiM))]] w fun e w' => e = .returned (.bool false) ∧ AtA w' p (bv Y1) 30 ∧ GrX p w w' := fun w h => hY1 ▸ k_know X1 (lowT b.tv) (lowT b.tm ||| hiM) false h1 p w h
     obtain ⟨X2, hX2⟩ : ∃ X, { { b with wl := (meetP a b).wl, wh := (meetP a b).wh } with vl := (meetP a b).vl, vh := (meetP a b).vh } = X := ⟨_, rfl⟩
     have hhq : AtA wf4 q (bv X2) 30 := hX2 ▸ B4q
     go_upto_region 5 with fail
     refine wp_region_inv (by kernel_rfl) (fun L ac wx =>  ac = ⟨(.pointer (some ⟨p, 0, none⟩) :: .pointer (some ⟨q, 0, none⟩) :: undef :: undef :: sel (L 12) (.bool false) (.bool false) :: .pointer (some ⟨p1_10, 0, none⟩) :: .pointer (some ⟨p1_11, 0, none⟩) :: .pointer (some ⟨p2_18, 0, none⟩) :: .pointer (some ⟨p2_19, 0, none⟩) :: .pointer (some ⟨p, 0, none⟩) :: .pointer (some ⟨p, 0, none⟩) :: .pointer (some ⟨p, 0, none⟩) :: .agg #[.int .u64 (iv a.tv), .int .u64 (iv a.tm)] :: .agg #[.int .u64 (iv (lowT a.tv)), .int .u64 (iv (lowT a.tm ||| hiM))] :: .pointer (some ⟨q, 0, none⟩) :: .pointer (some ⟨q, 0, none⟩) :: .pointer (some ⟨q, 0, none⟩) :: .agg #[.int .u64 (iv b.tv), .int .u64 (iv b.tm)] :: .agg #[.int .u64 (iv (lowT b.tv)), .int .u64 (iv (lowT b.tm ||| hiM))] :: .pointer (some ⟨p, 0, none⟩) :: .pointer (some ⟨p, 0, none⟩) :: .pointer (some ⟨p, 6, none⟩) :: .agg #[.int .u64 a.wl, .int .u64 a.wh] :: .pointer (some ⟨q, 0, none⟩) :: .pointer (some ⟨q, 0, none⟩) :: .pointer (some ⟨q, 6, none⟩) :: .agg #[.int .u64 b.wl, .int .u64 b.wh] :: .agg #[.int .u64 (meetP a b).wl, .int .u64 (meetP a b).wh] :: .pointer (some ⟨p, 0, none⟩) :: .pointer (some ⟨p, 0, none⟩) :: .pointer (some ⟨p, 8, none⟩) :: .agg #[.int .i64 a.vl, .int .i64 a.vh] :: .pointer (some ⟨q, 0, none⟩) :: .pointer (some ⟨q, 0, none⟩) :: .pointer (some ⟨q, 8, none⟩) :: .agg #[.int .i64 b.vl, .int .i64 b.vh] :: .agg #[.int .i64 (meetP a b).vl, .int .i64 (meetP a b).vh] :: .pointer (some ⟨p, 0, none⟩) :: .pointer (some ⟨q, 0, none⟩) :: .agg #[.int .u64 (meetP a b).wl, .int .u64 (meetP a b).wh] :: .agg #[.int .u64 (meetP a b).wl, .int .u64 (meetP a b).wh] :: .pointer (some ⟨p, 0, none⟩) :: .pointer (some ⟨p, 6, none⟩) :: .pointer (some ⟨q, 0, none⟩) :: .pointer (some ⟨q, 6, none⟩) :: .pointer (some ⟨p, 0, none⟩) :: .pointer (some ⟨q, 0, none⟩) :: .agg #[.int .i64 (meetP a b).vl, .int .i64 (meetP a b).vh] :: .agg #[.int .i64 (meetP a b).vl, .int .i64 (meetP a b).vh] :: .pointer (some ⟨p, 0, none⟩) :: .pointer (some ⟨p, 8, none⟩) :: .pointer (some ⟨q, 0, none⟩) :: .pointer (some ⟨q, 8, none⟩) :: sel (L 0) (.pointer (some ⟨p, 0, none⟩)) (undef) :: sel (L 1) (.pointer (some ⟨p, 0, none⟩)) (undef) :: sel (L 2) (.pointer (some ⟨p, 0, none⟩)) (undef) :: sel (L 3) (.agg #[.int .u64 (iv (lowT b.tv)), .int .u64 (iv (lowT b.tm ||| hiM))]) (undef) :: sel (L 4) (.bool false) (undef) :: sel (L 5) (.bool false) (undef) :: sel (L 6) (undef) (undef) :: sel (L 7) (undef) (undef) :: sel (L 8) (undef) (undef) :: sel (L 9) (undef) (undef) :: sel (L 10) (undef) (undef) :: sel (L 11) (.bool false) (undef) :: [] : List Value).toArray, []⟩ ∧ GrL [p] wf4 wx ∧ AtA wx p (sel (L 4) (bv Y1) (bv X1)) 30) (by kernel_rfl) ?h0 ?step ?fin
     case h0 => exact ⟨rfl, GrL.of (Gr.drew (Gr.refl _)), (hhp).drew⟩
     case step =>
      refine allOps_cons 0 ?_ ?_
      ·refine kF rfl ?_
       rintro L ac wx hL hd ⟨rfl, hG, Ap⟩
       refine wM (v := .pointer (some ⟨p, 0, none⟩)) rfl rfl ?_
       exact ⟨rfl, hG, Ap⟩
      refine allOps_cons 1 ?_ ?_
      ·refine kF rfl ?_
       rintro L ac wx hL hd ⟨rfl, hG, Ap⟩
       obtain ⟨e0, -⟩ := hd
       refine wp_nil (r := ⟨p, 0, none⟩) rfl (sel_of (e0 rfl)) ?_
       exact ⟨rfl, hG, Ap⟩
      refine allOps_cons 2 ?_ ?_
      ·refine kF rfl ?_
       rintro L ac wx hL hd ⟨rfl, hG, Ap⟩
       obtain ⟨e0, -⟩ := hd
       refine wp_fa0 rfl (sel_of (e0 rfl)) ?_
       exact ⟨rfl, hG, Ap⟩
      refine allOps_cons 3 ?_ ?_
      ·refine kF rfl ?_
       rintro L ac wx hL hd ⟨rfl, hG, Ap⟩
       have HL := (hp1_11_c4).grl hG (n1 (Ne.symm np_p1_11))
       refine wp_pT (v0 := .int .u64 (iv (lowT b.tv))) (v1 := .int .u64 (iv (lowT b.tm ||| hiM))) rfl rfl (HL) rfl rfl ?_
       exact ⟨rfl, hG, Ap⟩
      refine allOps_cons 4 ?_ ?_
      ·refine kF rfl ?_
       rintro L ac wx hL hd ⟨rfl, hG, Ap⟩
       obtain ⟨e0, e1, -⟩ := hd
       have HL := Ap; rw [hL] at HL
       refine wp_call2 rfl (sel_of (e0 rfl)) (sel_of (e1 rfl)) (by go_simp) ?_
       refine (kX1 _ HL).mono ?_
       rintro e w1 ⟨rfl, hn, hgx⟩
       refine ⟨_, rfl, ?_⟩
       exact ⟨rfl, hG.thenx hgx (.inl m1), hn⟩
      refine allOps_cons 5 ?_ ?_
      ·refine kF rfl ?_
       rintro L ac wx hL hd ⟨rfl, hG, Ap⟩
       obtain ⟨e0, e1, -⟩ := hd
       refine wM (v := .bool false) rfl (sel_of (e0 rfl)) ?_
       exact ⟨rfl, hG, Ap⟩
      refine allOps_cons 6 ?_ ?_
      ·refine keeps_no ?_
       rintro L ac wx hL hd ⟨rfl, hG, Ap⟩
       obtain ⟨e0, -⟩ := hd
       refine ⟨wanted_of (k := 5) (b := true) (c := false) rfl rfl rfl rfl (sel_of (e0 rfl)) rfl, ?_⟩
       exact ⟨rfl, hG, Ap⟩
      refine allOps_cons 7 ?_ ?_
      ·refine keeps_no ?_
       rintro L ac wx hL hd ⟨rfl, hG, Ap⟩
       obtain ⟨e0, e1, -⟩ := hd
       refine ⟨wanted_of (k := 5) (b := true) (c := false) rfl rfl rfl rfl (sel_of (e1 rfl)) rfl, ?_⟩
       exact ⟨rfl, hG, Ap⟩
      refine allOps_cons 8 ?_ ?_
      ·refine keeps_no ?_
       rintro L ac wx hL hd ⟨rfl, hG, Ap⟩
       obtain ⟨e0, e1, -⟩ := hd
       refine ⟨wanted_of (k := 5) (b := true) (c := false) rfl rfl rfl rfl (sel_of (e1 rfl)) rfl, ?_⟩
       exact ⟨rfl, hG, Ap⟩
      refine allOps_cons 9 ?_ ?_
      ·refine keeps_no ?_
       rintro L ac wx hL hd ⟨rfl, hG, Ap⟩
       obtain ⟨e0, -⟩ := hd
       refine ⟨wanted_of (k := 5) (b := true) (c := false) rfl rfl rfl rfl (sel_of (e0 rfl)) rfl, ?_⟩
       exact ⟨rfl, hG, Ap⟩
      refine allOps_cons 10 ?_ ?_
      ·refine keeps_no ?_
       rintro L ac wx hL hd ⟨rfl, hG, Ap⟩
       obtain ⟨e0, e1, e2, e3, -⟩ := hd
       refine ⟨wanted_of (k := 5) (b := true) (c := false) rfl rfl rfl rfl (sel_of (e2 rfl)) rfl, ?_⟩
       exact ⟨rfl, hG, Ap⟩
      refine allOps_cons 11 ?_ ?_
      ·refine kF rfl ?_
       rintro L ac wx hL hd ⟨rfl, hG, Ap⟩
       obtain ⟨e0, e1, -⟩ := hd
       refine wp_pickF (v := .bool false) rfl (sel_of (e0 rfl)) rfl ?_
       exact ⟨rfl, hG, Ap⟩
      refine allOps_cons 12 ?_ ?_
      ·refine kF rfl ?_
       rintro L ac wx hL hd ⟨rfl, hG, Ap⟩
       obtain ⟨e0, e1, e2, e3, e4, e5, e6, e7, e8, e9, e10, e11, e12, e13, -⟩ := hd
       refine wA (v := .bool false) rfl (sel_of (e0 rfl)) ?_
       exact ⟨rfl, hG, Ap⟩
      exact allOps_nil 13
     case fin =>
      rintro L ac wf5 hall ⟨rfl, hG5, B5p⟩
      have l0 : L 0 = true := hall 0 (by decide)
      have l1 : L 1 = true := hall 1 (by decide)
      have l2 : L 2 = true := hall 2 (by decide)
      have l3 : L 3 = true := hall 3 (by decide)
      have l4 : L 4 = true := hall 4 (by decide)
      have l5 : L 5 = true := hall 5 (by decide)
      have l6 : L 6 = true := hall 6 (by decide)
      have l7 : L 7 = true := hall 7 (by decide)
      have l8 : L 8 = true := hall 8 (by decide)
      have l9 : L 9 = true := hall 9 (by decide)
      have l10 : L 10 = true := hall 10 (by decide)
      have l11 : L 11 = true := hall 11 (by decide)
      have l12 : L 12 = true := hall 12 (by decide)
      rw [l4] at B5p
      change AtA wf5 p (bv Y1) 30 at B5p
      simp only [l0, l1, l2, l3, l4, l5, l6, l7, l8, l9, l10, l11, l12, sel_t]
      have hq_c5 := (hhq).grl hG5 (n1 (Ne.symm hpq))
      have hp1_10_c5 := (hp1_10_c4).grl hG5 (n1 (Ne.symm np_p1_10))
      have hp1_11_c5 := (hp1_11_c4).grl hG5 (n1 (Ne.symm np_p1_11))
      have hp2_18_c5 := (hp2_18_c4).grl hG5 (n1 (Ne.symm np_p2_18))
      have hp2_19_c5 := (hp2_19_c4).grl hG5 (n1 (Ne.symm np_p2_19))
      have hF_c5 := (hF_c4).app hG5 (r1 (.inl m21))
      clear l0 l1 l2 l3 l4 l5 l6 l7 l8 l9 l10 l11 l12 hall
      go_wp2
      go_ret
      exact ⟨rfl, hF_c5⟩
set_option maxHeartbeats 16000000 in
theorem halves_tn (a b : Bd) (p q : Nat) (w : World) (hpq : p ≠ q) (HA : AtA w p (bv a) 30) (HB : AtA w q (bv b) 30) (kh1 : Tn.meetX a.tv a.tm (lowT b.tv) (lowT b.tm ||| hiM) = true) (kh2 : Tn.meetX b.tv b.tm (lowT a.tv) (lowT a.tm ||| hiM) = false) : Calls Tryz.prog 262 #[.pointer (some ⟨p, 0, none⟩), .pointer (some ⟨q, 0, none⟩)] w fun e w' => e = .returned (.bool false) ∧ GrL [p, q] w w' := by
 go_enter Tryz.func262, Tryz.ntmps262
 go_upto_region 0 with fail
 refine rG ?_
 refine sF rfl ?_
 refine wA (v := .bool false) rfl rfl ?_
 simp only [Act.put, zs, z0, z1]
 refine s_end ?_
 go_upto_region 1 with fail
 refine wp_region_inv (by kernel_rfl) (fun L ac wx => ∃ (p1_10 : Nat) (p1_11 : Nat), ac = ⟨(.pointer (some ⟨p, 0, none⟩) :: .pointer (some ⟨q, 0, none⟩) :: undef :: undef :: .bool false :: sel (L 10) (.pointer (some ⟨p1_10, 0, none⟩)) (undef) :: sel (L 11) (.pointer (some ⟨p1_11, 0, none⟩)) (undef) :: undef :: undef :: sel (L 0) (.pointer (some ⟨p, 0, none⟩)) (undef) :: sel (L 1) (.pointer (some ⟨p, 0, none⟩)) (undef) :: sel (L 2) (.pointer (some ⟨p, 0, none⟩)) (undef) :: sel (L 3) (.agg #[.int .u64 (iv a.tv), .int .u64 (iv a.tm)]) (undef) :: sel (L 4) (.agg #[.int .u64 (iv (lowT a.tv)), .int .u64 (iv (lowT a.tm ||| hiM))]) (undef) :: sel (L 5) (.pointer (some ⟨q, 0, none⟩)) (undef) :: sel (L 6) (.pointer (some ⟨q, 0, none⟩)) (undef) :: sel (L 7) (.pointer (some ⟨q, 0, none⟩)) (undef) :: sel (L 8) (.agg #[.int .u64 (iv b.tv), .int .u64 (iv b.tm)]) (undef) :: sel (L 9) (.agg #[.int .u64 (iv (lowT b.tv)), .int .u64 (iv (lowT b.tm ||| hiM))]) (undef) :: undef :: undef :: undef :: undef :: undef :: undef :: undef :: undef :: undef :: undef :: undef :: undef :: undef :: undef :: undef :: undef :: undef :: undef :: undef :: undef :: undef :: undef :: undef :: undef :: undef :: undef :: undef :: undef :: undef :: undef :: undef :: undef :: undef :: undef :: undef :: undef :: undef :: undef :: undef :: undef :: undef :: undef :: undef :: undef :: undef :: undef :: [] : List Value).toArray, []⟩ ∧ GrL [] w wx ∧ (L 10 = true → w.heap.size ≤ p1_10 ∧ AtA wx p1_10 (sel (L 12) (#[.int .u64 (iv (lowT a.tv)), .int .u64 (iv (lowT a.tm ||| hiM))]) (#[.int .u64 0, .int .u64 0])) 24) ∧ (L 11 = true → w.heap.size ≤ p1_11 ∧ AtA wx p1_11 (sel (L 13) (#[.int .u64 (iv (lowT b.tv)), .int .u64 (iv (lowT b.tm ||| hiM))]) (#[.int .u64 0, .int .u64 0])) 24) ∧ (L 12 = true → L 10 = true) ∧ (L 13 = true → L 11 = true) ∧ (L 10 = true → L 11 = true → p1_10 ≠ p1_11)) (by kernel_rfl) ?h0 ?step ?fin
 case h0 => exact ⟨0, 0, rfl, GrL.of (Gr.drew (Gr.refl _)), (fun h => by cases h), (fun h => by cases h), (fun h => by cases h), (fun h => by cases h), (fun h => by cases h)⟩
 case step =>
  refine allOps_cons 0 ?_ ?_
  ·refine kF rfl ?_
   rintro L ac wx hL hd ⟨p1_10, p1_11, rfl, hG, f10, f11, s12, s13, g10_11⟩
   refine wM (v := .pointer (some ⟨p, 0, none⟩)) rfl rfl ?_
   exact ⟨p1_10, p1_11, rfl, hG, f10, f11, s12, s13, g10_11⟩
  refine allOps_cons 1 ?_ ?_
  ·refine kF rfl ?_
   rintro L ac wx hL hd ⟨p1_10, p1_11, rfl, hG, f10, f11, s12, s13, g10_11⟩
   obtain ⟨e0, -⟩ := hd
   refine wp_nil (r := ⟨p, 0, none⟩) rfl (sel_of (e0 rfl)) ?_
   exact ⟨p1_10, p1_11, rfl, hG, f10, f11, s12, s13, g10_11⟩
  refine allOps_cons 2 ?_ ?_
  ·refine kF rfl ?_
   rintro L ac wx hL hd ⟨p1_10, p1_11, rfl, hG, f10, f11, s12, s13, g10_11⟩
   obtain ⟨e0, -⟩ := hd
   refine wp_fa0 rfl (sel_of (e0 rfl)) ?_
   exact ⟨p1_10, p1_11, rfl, hG, f10, f11, s12, s13, g10_11⟩
  refine allOps_cons 3 ?_ ?_
  ·refine kF rfl ?_
   rintro L ac wx hL hd ⟨p1_10, p1_11, rfl, hG, f10, f11, s12, s13, g10_11⟩
   obtain ⟨e0, -⟩ := hd
   have HL := (HA).grl hG n0
   refine wp_pT (v0 := .int .u64 (iv a.tv)) (v1 := .int .u64 (iv a.tm)) rfl (sel_of (e0 rfl)) (HL) rfl rfl ?_
   exact ⟨p1_10, p1_11, rfl, hG, f10, f11, s12, s13, g10_11⟩
  refine allOps_cons 4 ?_ ?_
  ·refine kF rfl ?_
   rintro L ac wx hL hd ⟨p1_10, p1_11, rfl, hG, f10, f11, s12, s13, g10_11⟩
   obtain ⟨e0, -⟩ := hd
   refine wp_call1 rfl (sel_of (e0 rfl)) (by go_simp) ?_
   refine ((fun w => k_lowerBits a.tv a.tm w) _).mono ?_
   rintro e w1 ⟨rfl, hg⟩
   refine ⟨_, rfl, ?_⟩
   exact ⟨p1_10, p1_11, rfl, hG.then hg, fun h => ⟨(f10 h).1, (f10 h).2.gr hg⟩, fun h => ⟨(f11 h).1, (f11 h).2.gr hg⟩, s12, s13, g10_11⟩
  refine allOps_cons 5 ?_ ?_
  ·refine kF rfl ?_
   rintro L ac wx hL hd ⟨p1_10, p1_11, rfl, hG, f10, f11, s12, s13, g10_11⟩
   refine wM (v := .pointer (some ⟨q, 0, none⟩)) rfl rfl ?_
   exact ⟨p1_10, p1_11, rfl, hG, f10, f11, s12, s13, g10_11⟩
  refine allOps_cons 6 ?_ ?_
  ·refine kF rfl ?_
   rintro L ac wx hL hd ⟨p1_10, p1_11, rfl, hG, f10, f11, s12, s13, g10_11⟩
   obtain ⟨e0, -⟩ := hd
   refine wp_nil (r := ⟨q, 0, none⟩) rfl (sel_of (e0 rfl)) ?_
   exact ⟨p1_10, p1_11, rfl, hG, f10, f11, s12, s13, g10_11⟩
  refine allOps_cons 7 ?_ ?_
  ·refine kF rfl ?_
   rintro L ac wx hL hd ⟨p1_10, p1_11, rfl, hG, f10, f11, s12, s13, g10_11⟩
   obtain ⟨e0, -⟩ := hd
   refine wp_fa0 rfl (sel_of (e0 rfl)) ?_
   exact ⟨p1_10, p1_11, rfl, hG, f10, f11, s12, s13, g10_11⟩
  refine allOps_cons 8 ?_ ?_
  ·refine kF rfl ?_
   rintro L ac wx hL hd ⟨p1_10, p1_11, rfl, hG, f10, f11, s12, s13, g10_11⟩
   obtain ⟨e0, -⟩ := hd
   have HL := (HB).grl hG n0
   refine wp_pT (v0 := .int .u64 (iv b.tv)) (v1 := .int .u64 (iv b.tm)) rfl (sel_of (e0 rfl)) (HL) rfl rfl ?_
   exact ⟨p1_10, p1_11, rfl, hG, f10, f11, s12, s13, g10_11⟩
  refine allOps_cons 9 ?_ ?_
  ·refine kF rfl ?_
   rintro L ac wx hL hd ⟨p1_10, p1_11, rfl, hG, f10, f11, s12, s13, g10_11⟩
   obtain ⟨e0, e1, -⟩ := hd
   refine wp_call1 rfl (sel_of (e0 rfl)) (by go_simp) ?_
   refine ((fun w => k_lowerBits b.tv b.tm w) _).mono ?_
   rintro e w1 ⟨rfl, hg⟩
   refine ⟨_, rfl, ?_⟩
   exact ⟨p1_10, p1_11, rfl, hG.then hg, fun h => ⟨(f10 h).1, (f10 h).2.gr hg⟩, fun h => ⟨(f11 h).1, (f11 h).2.gr hg⟩, s12, s13, g10_11⟩
  refine allOps_cons 10 ?_ ?_
  ·refine kF rfl ?_
   rintro L ac wx hL hd ⟨p1_10, p1_11, rfl, hG, f10, f11, s12, s13, g10_11⟩
   have ls : L 12 = false := by
    cases h : L 12 with
    | false => rfl
    | true => have := s12 h; rw [hL] at this; cases this
   refine wp_allocT rfl ?_
   intro w1 hn hg
   exact ⟨wx.heap.size, p1_11, rfl, hG.then hg, fun _ => ⟨hG.size, by rw [show upd L 10 12 = false from ls]; exact hn⟩, fun h => ⟨(f11 h).1, (f11 h).2.gr hg⟩, fun _ => rfl, s13, fun _ h => by have z := (f11 h).2.lt; omega⟩
  refine allOps_cons 11 ?_ ?_
  ·refine kF rfl ?_
   rintro L ac wx hL hd ⟨p1_10, p1_11, rfl, hG, f10, f11, s12, s13, g10_11⟩
   have ls : L 13 = false := by
    cases h : L 13 with
    | false => rfl
    | true => have := s13 h; rw [hL] at this; cases this
   refine wp_allocT rfl ?_
   intro w1 hn hg
   exact ⟨p1_10, wx.heap.size, rfl, hG.then hg, fun h => ⟨(f10 h).1, (f10 h).2.gr hg⟩, fun _ => ⟨hG.size, by rw [show upd L 11 13 = false from ls]; exact hn⟩, s12, fun _ => rfl, fun h _ => by have z := (f10 h).2.lt; omega⟩
  refine allOps_cons 12 ?_ ?_
  ·refine kF rfl ?_
   rintro L ac wx hL hd ⟨p1_10, p1_11, rfl, hG, f10, f11, s12, s13, g10_11⟩
   obtain ⟨e0, e1, e2, e3, e4, e5, e6, e7, e8, e9, e10, e11, e12, e13, e14, -⟩ := hd
   have lp : L 10 = true := e0 rfl
   obtain ⟨k10, z10⟩ := f10 lp
   have HL := z10; rw [hL] at HL
   refine wp_storeT rfl (sel_of (e0 rfl)) (sel_of (e1 rfl)) HL ?_
   intro w1 hn hgx
   exact ⟨p1_10, p1_11, rfl, hG.thenx hgx (.inr k10), fun _ => ⟨k10, hn⟩, fun h => ⟨(f11 h).1, (f11 h).2.grx hgx (Ne.symm (g10_11 lp h))⟩, fun _ => lp, s13, g10_11⟩
  refine allOps_cons 13 ?_ ?_
  ·refine kF rfl ?_
   rintro L ac wx hL hd ⟨p1_10, p1_11, rfl, hG, f10, f11, s12, s13, g10_11⟩
   obtain ⟨e0, e1, e2, e3, e4, e5, e6, e7, e8, e9, e10, e11, e12, e13, e14, e15, -⟩ := hd
   have lp : L 11 = true := e0 rfl
   obtain ⟨k11, z11⟩ := f11 lp
   have HL := z11; rw [hL] at HL
   refine wp_storeT rfl (sel_of (e0 rfl)) (sel_of (e1 rfl)) HL ?_
   intro w1 hn hgx
   exact ⟨p1_10, p1_11, rfl, hG.thenx hgx (.inr k11), fun h => ⟨(f10 h).1, (f10 h).2.grx hgx (g10_11 h lp)⟩, fun _ => ⟨k11, hn⟩, s12, fun _ => lp, g10_11⟩
  exact allOps_nil 14
 case fin =>
  rintro L ac wf1 hall ⟨p1_10, p1_11, rfl, hG1, f10, f11, s12, s13, g10_11⟩
  have l0 : L 0 = true := hall 0 (by decide)
  have l1 : L 1 = true := hall 1 (by decide)
  have l2 : L 2 = true := hall 2 (by decide)
  have l3 : L 3 = true := hall 3 (by decide)
  have l4 : L 4 = true := hall 4 (by decide)
  have l5 : L 5 = true := hall 5 (by decide)
  have l6 : L 6 = true := hall 6 (by decide)
  have l7 : L 7 = true := hall 7 (by decide)
  have l8 : L 8 = true := hall 8 (by decide)
  have l9 : L 9 = true := hall 9 (by decide)
  have l10 : L 10 = true := hall 10 (by decide)
  have l11 : L 11 = true := hall 11 (by decide)
  have l12 : L 12 = true := hall 12 (by decide)
  have l13 : L 13 = true := hall 13 (by decide)
  obtain ⟨kp1_10, zp1_10⟩ := f10 l10
  rw [l12] at zp1_10
  change AtA wf1 p1_10 (#[.int .u64 (iv (lowT a.tv)), .int .u64 (iv (lowT a.tm ||| hiM))]) 24 at zp1_10
  obtain ⟨kp1_11, zp1_11⟩ := f11 l11
  rw [l13] at zp1_11
  change AtA wf1 p1_11 (#[.int .u64 (iv (lowT b.tv)), .int .u64 (iv (lowT b.tm ||| hiM))]) 24 at zp1_11
  have np1_10_p1_11 := g10_11 l10 l11
  simp only [l0, l1, l2, l3, l4, l5, l6, l7, l8, l9, l10, l11, sel_t]
  have np_p1_10 : p ≠ p1_10 := Nat.ne_of_lt (Nat.lt_of_lt_of_le (HA).lt kp1_10)
  have np_p1_11 : p ≠ p1_11 := Nat.ne_of_lt (Nat.lt_of_lt_of_le (HA).lt kp1_11)
  have nq_p1_10 : q ≠ p1_10 := Nat.ne_of_lt (Nat.lt_of_lt_of_le (HB).lt kp1_10)
  have nq_p1_11 : q ≠ p1_11 := Nat.ne_of_lt (Nat.lt_of_lt_of_le (HB).lt kp1_11)
  have frp1_10 := Nat.le_trans (GrL.refl [p, q] w).size kp1_10
  have frp1_11 := Nat.le_trans (GrL.refl [p, q] w).size kp1_11
  have hp_c1 := (HA).grl hG1 n0
  have hq_c1 := (HB).grl hG1 n0
  have hF_c1 := (GrL.refl [p, q] w).app hG1 (r0 )
  clear l0 l1 l2 l3 l4 l5 l6 l7 l8 l9 l10 l11 l12 l13 hall f10 f11 s12 s13 g10_11
  go_upto_region 2 with fail
  refine wp_region_inv (by kernel_rfl) (fun L ac wx => ∃ (p2_18 : Nat) (p2_19 : Nat), ac = ⟨(.pointer (some ⟨p, 0, none⟩) :: .pointer (some ⟨q, 0, none⟩) :: undef :: undef :: .bool false :: .pointer (some ⟨p1_10, 0, none⟩) :: .pointer (some ⟨p1_11, 0, none⟩) :: sel (L 18) (.pointer (some ⟨p2_18, 0, none⟩)) (undef) :: sel (L 19) (.pointer (some ⟨p2_19, 0, none⟩)) (undef) :: .pointer (some ⟨p, 0, none⟩) :: .pointer (some ⟨p, 0, none⟩) :: .pointer (some ⟨p, 0, none⟩) :: .agg #[.int .u64 (iv a.tv), .int .u64 (iv a.tm)] :: .agg #[.int .u64 (iv (lowT a.tv)), .int .u64 (iv (lowT a.tm ||| hiM))] :: .pointer (some ⟨q, 0, none⟩) :: .pointer (some ⟨q, 0, none⟩) :: .pointer (some ⟨q, 0, none⟩) :: .agg #[.int .u64 (iv b.tv), .int .u64 (iv b.tm)] :: .agg #[.int .u64 (iv (lowT b.tv)), .int .u64 (iv (lowT b.tm ||| hiM))] :: sel (L 0) (.pointer (some ⟨p, 0, none⟩)) (undef) :: sel (L 1) (.pointer (some ⟨p, 0, none⟩)) (undef) :: sel (L 2) (.pointer (some ⟨p, 6, none⟩)) (undef) :: sel (L 3) (.agg #[.int .u64 a.wl, .int .u64 a.wh]) (undef) :: sel (L 4) (.pointer (some ⟨q, 0, none⟩)) (undef) :: sel (L 5) (.pointer (some ⟨q, 0, none⟩)) (undef) :: sel (L 6) (.pointer (some ⟨q, 6, none⟩)) (undef) :: sel (L 7) (.agg #[.int .u64 b.wl, .int .u64 b.wh]) (undef) :: sel (L 8) (.agg #[.int .u64 (meetP a b).wl, .int .u64 (meetP a b).wh]) (undef) :: sel (L 9) (.pointer (some ⟨p, 0, none⟩)) (undef) :: sel (L 10) (.pointer (some ⟨p, 0, none⟩)) (undef) :: sel (L 11) (.pointer (some ⟨p, 8, none⟩)) (undef) :: sel (L 12) (.agg #[.int .i64 a.vl, .int .i64 a.vh]) (undef) :: sel (L 13) (.pointer (some ⟨q, 0, none⟩)) (undef) :: sel (L 14) (.pointer (some ⟨q, 0, none⟩)) (undef) :: sel (L 15) (.pointer (some ⟨q, 8, none⟩)) (undef) :: sel (L 16) (.agg #[.int .i64 b.vl, .int .i64 b.vh]) (undef) :: sel (L 17) (.agg #[.int .i64 (meetP a b).vl, .int .i64 (meetP a b).vh]) (undef) :: undef :: undef :: undef :: undef :: undef :: undef :: undef :: undef :: undef :: undef :: undef :: undef :: undef :: undef :: undef :: undef :: undef :: undef :: undef :: undef :: undef :: undef :: undef :: undef :: undef :: undef :: undef :: undef :: [] : List Value).toArray, []⟩ ∧ GrL [] wf1 wx ∧ (L 18 = true → wf1.heap.size ≤ p2_18 ∧ AtA wx p2_18 (sel (L 20) (#[.int .u64 (meetP a b).wl, .int .u64 (meetP a b).wh]) (#[.int .u64 0, .int .u64 0])) 26) ∧ (L 19 = true → wf1.heap.size ≤ p2_19 ∧ AtA wx p2_19 (sel (L 21) (#[.int .i64 (meetP a b).vl, .int .i64 (meetP a b).vh]) (#[.int .i64 0, .int .i64 0])) 28) ∧ (L 20 = true → L 18 = true) ∧ (L 21 = true → L 19 = true) ∧ (L 18 = true → L 19 = true → p2_18 ≠ p2_19)) (by kernel_rfl) ?h0 ?step ?fin
  case h0 => exact ⟨0, 0, rfl, GrL.of (Gr.drew (Gr.refl _)), (fun h => by cases h), (fun h => by cases h), (fun h => by cases h), (fun h => by cases h), (fun h => by cases h)⟩
  case step =>
   refine allOps_cons 0 ?_ ?_
   ·refine kF rfl ?_
    rintro L ac wx hL hd ⟨p2_18, p2_19, rfl, hG, f18, f19, s20, s21, g18_19⟩
    refine wM (v := .pointer (some ⟨p, 0, none⟩)) rfl rfl ?_
    exact ⟨p2_18, p2_19, rfl, hG, f18, f19, s20, s21, g18_19⟩
   refine allOps_cons 1 ?_ ?_
   ·refine kF rfl ?_
    rintro L ac wx hL hd ⟨p2_18, p2_19, rfl, hG, f18, f19, s20, s21, g18_19⟩
    obtain ⟨e0, -⟩ := hd
    refine wp_nil (r := ⟨p, 0, none⟩) rfl (sel_of (e0 rfl)) ?_
    exact ⟨p2_18, p2_19, rfl, hG, f18, f19, s20, s21, g18_19⟩
   refine allOps_cons 2 ?_ ?_
   ·refine kF rfl ?_
    rintro L ac wx hL hd ⟨p2_18, p2_19, rfl, hG, f18, f19, s20, s21, g18_19⟩
    obtain ⟨e0, -⟩ := hd
    refine wp_fa3 rfl (sel_of (e0 rfl)) ?_
    exact ⟨p2_18, p2_19, rfl, hG, f18, f19, s20, s21, g18_19⟩
   refine allOps_cons 3 ?_ ?_
   ·refine kF rfl ?_
    rintro L ac wx hL hd ⟨p2_18, p2_19, rfl, hG, f18, f19, s20, s21, g18_19⟩
    obtain ⟨e0, -⟩ := hd
    have HL := (hp_c1).grl hG n0
    refine wp_pU (v0 := .int .u64 a.wl) (v1 := .int .u64 a.wh) rfl (sel_of (e0 rfl)) (HL) rfl rfl ?_
    exact ⟨p2_18, p2_19, rfl, hG, f18, f19, s20, s21, g18_19⟩
   refine allOps_cons 4 ?_ ?_
   ·refine kF rfl ?_
    rintro L ac wx hL hd ⟨p2_18, p2_19, rfl, hG, f18, f19, s20, s21, g18_19⟩
    refine wM (v := .pointer (some ⟨q, 0, none⟩)) rfl rfl ?_
    exact ⟨p2_18, p2_19, rfl, hG, f18, f19, s20, s21, g18_19⟩
   refine allOps_cons 5 ?_ ?_
   ·refine kF rfl ?_
    rintro L ac wx hL hd ⟨p2_18, p2_19, rfl, hG, f18, f19, s20, s21, g18_19⟩
    obtain ⟨e0, -⟩ := hd
    refine wp_nil (r := ⟨q, 0, none⟩) rfl (sel_of (e0 rfl)) ?_
    exact ⟨p2_18, p2_19, rfl, hG, f18, f19, s20, s21, g18_19⟩
   refine allOps_cons 6 ?_ ?_
   ·refine kF rfl ?_
    rintro L ac wx hL hd ⟨p2_18, p2_19, rfl, hG, f18, f19, s20, s21, g18_19⟩
    obtain ⟨e0, -⟩ := hd
    refine wp_fa3 rfl (sel_of (e0 rfl)) ?_
    exact ⟨p2_18, p2_19, rfl, hG, f18, f19, s20, s21, g18_19⟩
   refine allOps_cons 7 ?_ ?_
   ·refine kF rfl ?_
    rintro L ac wx hL hd ⟨p2_18, p2_19, rfl, hG, f18, f19, s20, s21, g18_19⟩
    obtain ⟨e0, -⟩ := hd
    have HL := (hq_c1).grl hG n0
    refine wp_pU (v0 := .int .u64 b.wl) (v1 := .int .u64 b.wh) rfl (sel_of (e0 rfl)) (HL) rfl rfl ?_
    exact ⟨p2_18, p2_19, rfl, hG, f18, f19, s20, s21, g18_19⟩
   refine allOps_cons 8 ?_ ?_
   ·refine kF rfl ?_
    rintro L ac wx hL hd ⟨p2_18, p2_19, rfl, hG, f18, f19, s20, s21, g18_19⟩
    obtain ⟨e0, e1, -⟩ := hd
    refine wp_call2 rfl (sel_of (e0 rfl)) (sel_of (e1 rfl)) (by go_simp) ?_
    refine ((fun w => meet_u a.wl a.wh b.wl b.wh w) _).mono ?_
    rintro e w1 ⟨rfl, hg⟩
    refine ⟨_, rfl, ?_⟩
    exact ⟨p2_18, p2_19, rfl, hG.then hg, fun h => ⟨(f18 h).1, (f18 h).2.gr hg⟩, fun h => ⟨(f19 h).1, (f19 h).2.gr hg⟩, s20, s21, g18_19⟩
   refine allOps_cons 9 ?_ ?_
   ·refine kF rfl ?_
    rintro L ac wx hL hd ⟨p2_18, p2_19, rfl, hG, f18, f19, s20, s21, g18_19⟩
    refine wM (v := .pointer (some ⟨p, 0, none⟩)) rfl rfl ?_
    exact ⟨p2_18, p2_19, rfl, hG, f18, f19, s20, s21, g18_19⟩
   refine allOps_cons 10 ?_ ?_
   ·refine kF rfl ?_
    rintro L ac wx hL hd ⟨p2_18, p2_19, rfl, hG, f18, f19, s20, s21, g18_19⟩
    obtain ⟨e0, -⟩ := hd
    refine wp_nil (r := ⟨p, 0, none⟩) rfl (sel_of (e0 rfl)) ?_
    exact ⟨p2_18, p2_19, rfl, hG, f18, f19, s20, s21, g18_19⟩
   refine allOps_cons 11 ?_ ?_
   ·refine kF rfl ?_
    rintro L ac wx hL hd ⟨p2_18, p2_19, rfl, hG, f18, f19, s20, s21, g18_19⟩
    obtain ⟨e0, -⟩ := hd
    refine wp_fa4 rfl (sel_of (e0 rfl)) ?_
    exact ⟨p2_18, p2_19, rfl, hG, f18, f19, s20, s21, g18_19⟩
   refine allOps_cons 12 ?_ ?_
   ·refine kF rfl ?_
    rintro L ac wx hL hd ⟨p2_18, p2_19, rfl, hG, f18, f19, s20, s21, g18_19⟩
    obtain ⟨e0, -⟩ := hd
    have HL := (hp_c1).grl hG n0
    refine wp_pS (v0 := .int .i64 a.vl) (v1 := .int .i64 a.vh) rfl (sel_of (e0 rfl)) (HL) rfl rfl ?_
    exact ⟨p2_18, p2_19, rfl, hG, f18, f19, s20, s21, g18_19⟩
   refine allOps_cons 13 ?_ ?_
   ·refine kF rfl ?_
    rintro L ac wx hL hd ⟨p2_18, p2_19, rfl, hG, f18, f19, s20, s21, g18_19⟩
    refine wM (v := .pointer (some ⟨q, 0, none⟩)) rfl rfl ?_
    exact ⟨p2_18, p2_19, rfl, hG, f18, f19, s20, s21, g18_19⟩
   refine allOps_cons 14 ?_ ?_
   ·refine kF rfl ?_
    rintro L ac wx hL hd ⟨p2_18, p2_19, rfl, hG, f18, f19, s20, s21, g18_19⟩
    obtain ⟨e0, -⟩ := hd
    refine wp_nil (r := ⟨q, 0, none⟩) rfl (sel_of (e0 rfl)) ?_
    exact ⟨p2_18, p2_19, rfl, hG, f18, f19, s20, s21, g18_19⟩
   refine allOps_cons 15 ?_ ?_
   ·refine kF rfl ?_
    rintro L ac wx hL hd ⟨p2_18, p2_19, rfl, hG, f18, f19, s20, s21, g18_19⟩
    obtain ⟨e0, -⟩ := hd
    refine wp_fa4 rfl (sel_of (e0 rfl)) ?_
    exact ⟨p2_18, p2_19, rfl, hG, f18, f19, s20, s21, g18_19⟩
   refine allOps_cons 16 ?_ ?_
   ·refine kF rfl ?_
    rintro L ac wx hL hd ⟨p2_18, p2_19, rfl, hG, f18, f19, s20, s21, g18_19⟩
    obtain ⟨e0, -⟩ := hd
    have HL := (hq_c1).grl hG n0
    refine wp_pS (v0 := .int .i64 b.vl) (v1 := .int .i64 b.vh) rfl (sel_of (e0 rfl)) (HL) rfl rfl ?_
    exact ⟨p2_18, p2_19, rfl, hG, f18, f19, s20, s21, g18_19⟩
   refine allOps_cons 17 ?_ ?_
   ·refine kF rfl ?_
    rintro L ac wx hL hd ⟨p2_18, p2_19, rfl, hG, f18, f19, s20, s21, g18_19⟩
    obtain ⟨e0, e1, e2, -⟩ := hd
    refine wp_call2 rfl (sel_of (e0 rfl)) (sel_of (e1 rfl)) (by go_simp) ?_
    refine ((fun w => meet_s a.vl a.vh b.vl b.vh w) _).mono ?_
    rintro e w1 ⟨rfl, hg⟩
    refine ⟨_, rfl, ?_⟩
    exact ⟨p2_18, p2_19, rfl, hG.then hg, fun h => ⟨(f18 h).1, (f18 h).2.gr hg⟩, fun h => ⟨(f19 h).1, (f19 h).2.gr hg⟩, s20, s21, g18_19⟩
   refine allOps_cons 18 ?_ ?_
   ·refine kF rfl ?_
    rintro L ac wx hL hd ⟨p2_18, p2_19, rfl, hG, f18, f19, s20, s21, g18_19⟩
    have ls : L 20 = false := by
     cases h : L 20 with
     | false => rfl
     | true => have := s20 h; rw [hL] at this; cases this
    refine wp_al_S rfl ?_
    intro w1 hn hg
    exact ⟨wx.heap.size, p2_19, rfl, hG.then hg, fun _ => ⟨hG.size, by rw [show upd L 18 20 = false from ls]; exact hn⟩, fun h => ⟨(f19 h).1, (f19 h).2.gr hg⟩, fun _ => rfl, s21, fun _ h => by have z := (f19 h).2.lt; omega⟩
   refine allOps_cons 19 ?_ ?_
   ·refine kF rfl ?_
    rintro L ac wx hL hd ⟨p2_18, p2_19, rfl, hG, f18, f19, s20, s21, g18_19⟩
    have ls : L 21 = false := by
     cases h : L 21 with
     | false => rfl
     | true => have := s21 h; rw [hL] at this; cases this
    refine wp_al_R rfl ?_
    intro w1 hn hg
    exact ⟨p2_18, wx.heap.size, rfl, hG.then hg, fun h => ⟨(f18 h).1, (f18 h).2.gr hg⟩, fun _ => ⟨hG.size, by rw [show upd L 19 21 = false from ls]; exact hn⟩, s20, fun _ => rfl, fun h _ => by have z := (f18 h).2.lt; omega⟩
   refine allOps_cons 20 ?_ ?_
   ·refine kF rfl ?_
    rintro L ac wx hL hd ⟨p2_18, p2_19, rfl, hG, f18, f19, s20, s21, g18_19⟩
    obtain ⟨e0, e1, e2, e3, e4, e5, e6, e7, e8, e9, e10, e11, e12, e13, e14, e15, e16, e17, e18, e19, e20, e21, e22, -⟩ := hd
    have lp : L 18 = true := e0 rfl
    obtain ⟨k18, z18⟩ := f18 lp
    have HL := z18; rw [hL] at HL
    refine wp_storeU rfl (sel_of (e0 rfl)) (sel_of (e1 rfl)) HL ?_
    intro w1 hn hgx
    exact ⟨p2_18, p2_19, rfl, hG.thenx hgx (.inr k18), fun _ => ⟨k18, hn⟩, fun h => ⟨(f19 h).1, (f19 h).2.grx hgx (Ne.symm (g18_19 lp h))⟩, fun _ => lp, s21, g18_19⟩
   refine allOps_cons 21 ?_ ?_
   ·refine kF rfl ?_
    rintro L ac wx hL hd ⟨p2_18, p2_19, rfl, hG, f18, f19, s20, s21, g18_19⟩
    obtain ⟨e0, e1, e2, e3, e4, e5, e6, e7, e8, e9, e10, e11, e12, e13, e14, e15, e16, e17, e18, e19, e20, e21, e22, e23, -⟩ := hd
    have lp : L 19 = true := e0 rfl
    obtain ⟨k19, z19⟩ := f19 lp
    have HL := z19; rw [hL] at HL
    refine wp_storeS rfl (sel_of (e0 rfl)) (sel_of (e1 rfl)) HL ?_
    intro w1 hn hgx
    exact ⟨p2_18, p2_19, rfl, hG.thenx hgx (.inr k19), fun h => ⟨(f18 h).1, (f18 h).2.grx hgx (g18_19 h lp)⟩, fun _ => ⟨k19, hn⟩, s20, fun _ => lp, g18_19⟩
   exact allOps_nil 22
  case fin =>
   rintro L ac wf2 hall ⟨p2_18, p2_19, rfl, hG2, f18, f19, s20, s21, g18_19⟩
   have l0 : L 0 = true := hall 0 (by decide)
   have l1 : L 1 = true := hall 1 (by decide)
   have l2 : L 2 = true := hall 2 (by decide)
   have l3 : L 3 = true := hall 3 (by decide)
   have l4 : L 4 = true := hall 4 (by decide)
   have l5 : L 5 = true := hall 5 (by decide)
   have l6 : L 6 = true := hall 6 (by decide)
   have l7 : L 7 = true := hall 7 (by decide)
   have l8 : L 8 = true := hall 8 (by decide)
   have l9 : L 9 = true := hall 9 (by decide)
   have l10 : L 10 = true := hall 10 (by decide)
   have l11 : L 11 = true := hall 11 (by decide)
   have l12 : L 12 = true := hall 12 (by decide)
   have l13 : L 13 = true := hall 13 (by decide)
   have l14 : L 14 = true := hall 14 (by decide)
   have l15 : L 15 = true := hall 15 (by decide)
   have l16 : L 16 = true := hall 16 (by decide)
   have l17 : L 17 = true := hall 17 (by decide)
   have l18 : L 18 = true := hall 18 (by decide)
   have l19 : L 19 = true := hall 19 (by decide)
   have l20 : L 20 = true := hall 20 (by decide)
   have l21 : L 21 = true := hall 21 (by decide)
   obtain ⟨kp2_18, zp2_18⟩ := f18 l18
   rw [l20] at zp2_18
   change AtA wf2 p2_18 (#[.int .u64 (meetP a b).wl, .int .u64 (meetP a b).wh]) 26 at zp2_18
   obtain ⟨kp2_19, zp2_19⟩ := f19 l19
   rw [l21] at zp2_19
   change AtA wf2 p2_19 (#[.int .i64 (meetP a b).vl, .int .i64 (meetP a b).vh]) 28 at zp2_19
   have np2_18_p2_19 := g18_19 l18 l19
   simp only [l0, l1, l2, l3, l4, l5, l6, l7, l8, l9, l10, l11, l12, l13, l14, l15, l16, l17, l18, l19, sel_t]
   have np_p2_18 : p ≠ p2_18 := Nat.ne_of_lt (Nat.lt_of_lt_of_le (hp_c1).lt kp2_18)
   have np_p2_19 : p ≠ p2_19 := Nat.ne_of_lt (Nat.lt_of_lt_of_le (hp_c1).lt kp2_19)
   have nq_p2_18 : q ≠ p2_18 := Nat.ne_of_lt (Nat.lt_of_lt_of_le (hq_c1).lt kp2_18)
   have nq_p2_19 : q ≠ p2_19 := Nat.ne_of_lt (Nat.lt_of_lt_of_le (hq_c1).lt kp2_19)
   have np1_10_p2_18 : p1_10 ≠ p2_18 := Nat.ne_of_lt (Nat.lt_of_lt_of_le (zp1_10).lt kp2_18)
   have np1_10_p2_19 : p1_10 ≠ p2_19 := Nat.ne_of_lt (Nat.lt_of_lt_of_le (zp1_10).lt kp2_19)
   have np1_11_p2_18 : p1_11 ≠ p2_18 := Nat.ne_of_lt (Nat.lt_of_lt_of_le (zp1_11).lt kp2_18)
   have np1_11_p2_19 : p1_11 ≠ p2_19 := Nat.ne_of_lt (Nat.lt_of_lt_of_le (zp1_11).lt kp2_19)
   have frp2_18 := Nat.le_trans (hF_c1).size kp2_18
   have frp2_19 := Nat.le_trans (hF_c1).size kp2_19
   have hp_c2 := (hp_c1).grl hG2 n0
   have hq_c2 := (hq_c1).grl hG2 n0
   have hp1_10_c2 := (zp1_10).grl hG2 n0
   have hp1_11_c2 := (zp1_11).grl hG2 n0
   have hF_c2 := (hF_c1).app hG2 (r0 )
   clear l0 l1 l2 l3 l4 l5 l6 l7 l8 l9 l10 l11 l12 l13 l14 l15 l16 l17 l18 l19 l20 l21 hall f18 f19 s20 s21 g18_19
   go_upto_region 3 with fail
   refine wp_region_inv (by kernel_rfl) (fun L ac wx =>  ac = ⟨(.pointer (some ⟨p, 0, none⟩) :: .pointer (some ⟨q, 0, none⟩) :: undef :: undef :: .bool false :: .pointer (some ⟨p1_10, 0, none⟩) :: .pointer (some ⟨p1_11, 0, none⟩) :: .pointer (some ⟨p2_18, 0, none⟩) :: .pointer (some ⟨p2_19, 0, none⟩) :: .pointer (some ⟨p, 0, none⟩) :: .pointer (some ⟨p, 0, none⟩) :: .pointer (some ⟨p, 0, none⟩) :: .agg #[.int .u64 (iv a.tv), .int .u64 (iv a.tm)] :: .agg #[.int .u64 (iv (lowT a.tv)), .int .u64 (iv (lowT a.tm ||| hiM))] :: .pointer (some ⟨q, 0, none⟩) :: .pointer (some ⟨q, 0, none⟩) :: .pointer (some ⟨q, 0, none⟩) :: .agg #[.int .u64 (iv b.tv), .int .u64 (iv b.tm)] :: .agg #[.int .u64 (iv (lowT b.tv)), .int .u64 (iv (lowT b.tm ||| hiM))] :: .pointer (some ⟨p, 0, none⟩) :: .pointer (some ⟨p, 0, none⟩) :: .pointer (some ⟨p, 6, none⟩) :: .agg #[.int .u64 a.wl, .int .u64 a.wh] :: .pointer (some ⟨q, 0, none⟩) :: .pointer (some ⟨q, 0, none⟩) :: .pointer (some ⟨q, 6, none⟩) :: .agg #[.int .u64 b.wl, .int .u64 b.wh] :: .agg #[.int .u64 (meetP a b).wl, .int .u64 (meetP a b).wh] :: .pointer (some ⟨p, 0, none⟩) :: .pointer (some ⟨p, 0, none⟩) :: .pointer (some ⟨p, 8, none⟩) :: .agg #[.int .i64 a.vl, .int .i64 a.vh] :: .pointer (some ⟨q, 0, none⟩) :: .pointer (some ⟨q, 0, none⟩) :: .pointer (some ⟨q, 8, none⟩) :: .agg #[.int .i64 b.vl, .int .i64 b.vh] :: .agg #[.int .i64 (meetP a b).vl, .int .i64 (meetP a b).vh] :: sel (L 0) (.pointer (some ⟨p, 0, none⟩)) (undef) :: sel (L 1) (.pointer (some ⟨q, 0, none⟩)) (undef) :: sel (L 2) (.agg #[.int .u64 (meetP a b).wl, .int .u64 (meetP a b).wh]) (undef) :: sel (L 3) (.agg #[.int .u64 (meetP a b).wl, .int .u64 (meetP a b).wh]) (undef) :: sel (L 4) (.pointer (some ⟨p, 0, none⟩)) (undef) :: sel (L 5) (.pointer (some ⟨p, 6, none⟩)) (undef) :: sel (L 7) (.pointer (some ⟨q, 0, none⟩)) (undef) :: sel (L 8) (.pointer (some ⟨q, 6, none⟩)) (undef) :: undef :: undef :: undef :: undef :: undef :: undef :: undef :: undef :: undef :: undef :: undef :: undef :: undef :: undef :: undef :: undef :: undef :: undef :: undef :: undef :: [] : List Value).toArray, []⟩ ∧ GrL [p, q] wf2 wx ∧ AtA wx p (sel (L 6) (bv { a with wl := (meetP a b).wl, wh := (meetP a b).wh }) (bv a)) 30 ∧ AtA wx q (sel (L 9) (bv { b with wl := (meetP a b).wl, wh := (meetP a b).wh }) (bv b)) 30) (by kernel_rfl) ?h0 ?step ?fin
   case h0 => exact ⟨rfl, GrL.of (Gr.drew (Gr.refl _)), (hp_c2).drew, (hq_c2).drew⟩
   case step =>
    refine allOps_cons 0 ?_ ?_
    ·refine kF rfl ?_
     rintro L ac wx hL hd ⟨rfl, hG, Ap, Aq⟩
     refine wM (v := .pointer (some ⟨p, 0, none⟩)) rfl rfl ?_
     exact ⟨rfl, hG, Ap, Aq⟩
    refine allOps_cons 1 ?_ ?_
    ·refine kF rfl ?_
     rintro L ac wx hL hd ⟨rfl, hG, Ap, Aq⟩
     obtain ⟨e0, -⟩ := hd
     refine wM (v := .pointer (some ⟨q, 0, none⟩)) rfl rfl ?_
     exact ⟨rfl, hG, Ap, Aq⟩
    refine allOps_cons 2 ?_ ?_
    ·refine kF rfl ?_
     rintro L ac wx hL hd ⟨rfl, hG, Ap, Aq⟩
     have HL := (zp2_18).grl hG (n2 (Ne.symm np_p2_18) (Ne.symm nq_p2_18))
     refine wp_pU (v0 := .int .u64 (meetP a b).wl) (v1 := .int .u64 (meetP a b).wh) rfl rfl (HL) rfl rfl ?_
     exact ⟨rfl, hG, Ap, Aq⟩
    refine allOps_cons 3 ?_ ?_
    ·refine kF rfl ?_
     rintro L ac wx hL hd ⟨rfl, hG, Ap, Aq⟩
     obtain ⟨e0, -⟩ := hd
     have HL := (zp2_18).grl hG (n2 (Ne.symm np_p2_18) (Ne.symm nq_p2_18))
     refine wp_pU (v0 := .int .u64 (meetP a b).wl) (v1 := .int .u64 (meetP a b).wh) rfl rfl (HL) rfl rfl ?_
     exact ⟨rfl, hG, Ap, Aq⟩
    refine allOps_cons 4 ?_ ?_
    ·refine kF rfl ?_
     rintro L ac wx hL hd ⟨rfl, hG, Ap, Aq⟩
     obtain ⟨e0, e1, e2, e3, e4, -⟩ := hd
     refine wp_nil (r := ⟨p, 0, none⟩) rfl (sel_of (e0 rfl)) ?_
     exact ⟨rfl, hG, Ap, Aq⟩
    refine allOps_cons 5 ?_ ?_
    ·refine kF rfl ?_
     rintro L ac wx hL hd ⟨rfl, hG, Ap, Aq⟩
     obtain ⟨e0, e1, e2, e3, e4, -⟩ := hd
     refine wp_fa3 rfl (sel_of (e0 rfl)) ?_
     exact ⟨rfl, hG, Ap, Aq⟩
    refine allOps_cons 6 ?_ ?_
    ·refine kF rfl ?_
     rintro L ac wx hL hd ⟨rfl, hG, Ap, Aq⟩
     obtain ⟨e0, e1, e2, e3, e4, e5, -⟩ := hd
     have HL := Ap; rw [hL] at HL
     refine wp_stW rfl (sel_of (e0 rfl)) (sel_of (e1 rfl)) HL ?_
     intro w1 hn hgx
     exact ⟨rfl, hG.thenx hgx (.inl m21), hn, Aq.grx hgx (Ne.symm hpq)⟩
    refine allOps_cons 7 ?_ ?_
    ·refine kF rfl ?_
     rintro L ac wx hL hd ⟨rfl, hG, Ap, Aq⟩
     obtain ⟨e0, e1, e2, e3, e4, e5, e6, e7, -⟩ := hd
     refine wp_nil (r := ⟨q, 0, none⟩) rfl (sel_of (e0 rfl)) ?_
     exact ⟨rfl, hG, Ap, Aq⟩
    refine allOps_cons 8 ?_ ?_
    ·refine kF rfl ?_
     rintro L ac wx hL hd ⟨rfl, hG, Ap, Aq⟩
     obtain ⟨e0, e1, e2, e3, e4, e5, e6, e7, -⟩ := hd
     refine wp_fa3 rfl (sel_of (e0 rfl)) ?_
     exact ⟨rfl, hG, Ap, Aq⟩
    refine allOps_cons 9 ?_ ?_
    ·refine kF rfl ?_
     rintro L ac wx hL hd ⟨rfl, hG, Ap, Aq⟩
     obtain ⟨e0, e1, e2, e3, e4, e5, e6, e7, e8, e9, -⟩ := hd
     have HL := Aq; rw [hL] at HL
     refine wp_stW rfl (sel_of (e0 rfl)) (sel_of (e1 rfl)) HL ?_
     intro w1 hn hgx
     exact ⟨rfl, hG.thenx hgx (.inl m22), Ap.grx hgx hpq, hn⟩
    exact allOps_nil 10
   case fin =>
    rintro L ac wf3 hall ⟨rfl, hG3, B3p, B3q⟩
    have l0 : L 0 = true := hall 0 (by decide)
    have l1 : L 1 = true := hall 1 (by decide)
    have l2 : L 2 = true := hall 2 (by decide)
    have l3 : L 3 = true := hall 3 (by decide)
    have l4 : L 4 = true := hall 4 (by decide)
    have l5 : L 5 = true := hall 5 (by decide)
    have l6 : L 6 = true := hall 6 (by decide)
    have l7 : L 7 = true := hall 7 (by decide)
    have l8 : L 8 = true := hall 8 (by decide)
    have l9 : L 9 = true := hall 9 (by decide)
    rw [l6] at B3p
    change AtA wf3 p (bv { a with wl := (meetP a b).wl, wh := (meetP a b).wh }) 30 at B3p
    rw [l9] at B3q
    change AtA wf3 q (bv { b with wl := (meetP a b).wl, wh := (meetP a b).wh }) 30 at B3q
    simp only [l0, l1, l2, l3, l4, l5, l7, l8, sel_t]
    have hp1_10_c3 := (hp1_10_c2).grl hG3 (n2 (Ne.symm np_p1_10) (Ne.symm nq_p1_10))
    have hp1_11_c3 := (hp1_11_c2).grl hG3 (n2 (Ne.symm np_p1_11) (Ne.symm nq_p1_11))
    have hp2_18_c3 := (zp2_18).grl hG3 (n2 (Ne.symm np_p2_18) (Ne.symm nq_p2_18))
    have hp2_19_c3 := (zp2_19).grl hG3 (n2 (Ne.symm np_p2_19) (Ne.symm nq_p2_19))
    have hF_c3 := (hF_c2).app hG3 (r2 (.inl m21) (.inl m22))
    clear l0 l1 l2 l3 l4 l5 l6 l7 l8 l9 hall
    go_upto_region 4 with fail
    refine wp_region_inv (by kernel_rfl) (fun L ac wx =>  ac = ⟨(.pointer (some ⟨p, 0, none⟩) :: .pointer (some ⟨q, 0, none⟩) :: undef :: undef :: .bool false :: .pointer (some ⟨p1_10, 0, none⟩) :: .pointer (some ⟨p1_11, 0, none⟩) :: .pointer (some ⟨p2_18, 0, none⟩) :: .pointer (some ⟨p2_19, 0, none⟩) :: .pointer (some ⟨p, 0, none⟩) :: .pointer (some ⟨p, 0, none⟩) :: .pointer (some ⟨p, 0, none⟩) :: .agg #[.int .u64 (iv a.tv), .int .u64 (iv a.tm)] :: .agg #[.int .u64 (iv (lowT a.tv)), .int .u64 (iv (lowT a.tm ||| hiM))] :: .pointer (some ⟨q, 0, none⟩) :: .pointer (some ⟨q, 0, none⟩) :: .pointer (some ⟨q, 0, none⟩) :: .agg #[.int .u64 (iv b.tv), .int .u64 (iv b.tm)] :: .agg #[.int .u64 (iv (lowT b.tv)), .int .u64 (iv (lowT b.tm ||| hiM))] :: .pointer (some ⟨p, 0, none⟩) :: .pointer (some ⟨p, 0, none⟩) :: .pointer (some ⟨p, 6, none⟩) :: .agg #[.int .u64 a.wl, .int .u64 a.wh] :: .pointer (some ⟨q, 0, none⟩) :: .pointer (some ⟨q, 0, none⟩) :: .pointer (some ⟨q, 6, none⟩) :: .agg #[.int .u64 b.wl, .int .u64 b.wh] :: .agg #[.int .u64 (meetP a b).wl, .int .u64 (meetP a b).wh] :: .pointer (some ⟨p, 0, none⟩) :: .pointer (some ⟨p, 0, none⟩) :: .pointer (some ⟨p, 8, none⟩) :: .agg #[.int .i64 a.vl, .int .i64 a.vh] :: .pointer (some ⟨q, 0, none⟩) :: .pointer (some ⟨q, 0, none⟩) :: .pointer (some ⟨q, 8, none⟩) :: .agg #[.int .i64 b.vl, .int .i64 b.vh] :: .agg #[.int .i64 (meetP a b).vl, .int .i64 (meetP a b).vh] :: .pointer (some ⟨p, 0, none⟩) :: .pointer (some ⟨q, 0, none⟩) :: .agg #[.int .u64 (meetP a b).wl, .int .u64 (meetP a b).wh] :: .agg #[.int .u64 (meetP a b).wl, .int .u64 (meetP a b).wh] :: .pointer (some ⟨p, 0, none⟩) :: .pointer (some ⟨p, 6, none⟩) :: .pointer (some ⟨q, 0, none⟩) :: .pointer (some ⟨q, 6, none⟩) :: sel (L 0) (.pointer (some ⟨p, 0, none⟩)) (undef) :: sel (L 1) (.pointer (some ⟨q, 0, none⟩)) (undef) :: sel (L 2) (.agg #[.int .i64 (meetP a b).vl, .int .i64 (meetP a b).vh]) (undef) :: sel (L 3) (.agg #[.int .i64 (meetP a b).vl, .int .i64 (meetP a b).vh]) (undef) :: sel (L 4) (.pointer (some ⟨p, 0, none⟩)) (undef) :: sel (L 5) (.pointer (some ⟨p, 8, none⟩)) (undef) :: sel (L 7) (.pointer (some ⟨q, 0, none⟩)) (undef) :: sel (L 8) (.pointer (some ⟨q, 8, none⟩)) (undef) :: undef :: undef :: undef :: undef :: undef :: undef :: undef :: undef :: undef :: undef :: undef :: undef :: [] : List Value).toArray, []⟩ ∧ GrL [p, q] wf3 wx ∧ AtA wx p (sel (L 6) (bv { { a with wl := (meetP a b).wl, wh := (meetP a b).wh } with vl := (meetP a b).vl, vh := (meetP a b).vh }) (bv { a with wl := (meetP a b).wl, wh := (meetP a b).wh })) 30 ∧ AtA wx q (sel (L 9) (bv { { b with wl := (meetP a b).wl, wh := (meetP a b).wh } with vl := (meetP a b).vl, vh := (meetP a b).vh }) (bv { b with wl := (meetP a b).wl, wh := (meetP a b).wh })) 30) (by kernel_rfl) ?h0 ?step ?fin
    case h0 => exact ⟨rfl, GrL.of (Gr.drew (Gr.refl _)), (B3p).drew, (B3q).drew⟩
    case step =>
     refine allOps_cons 0 ?_ ?_
     ·refine kF rfl ?_
      rintro L ac wx hL hd ⟨rfl, hG, Ap, Aq⟩
      refine wM (v := .pointer (some ⟨p, 0, none⟩)) rfl rfl ?_
      exact ⟨rfl, hG, Ap, Aq⟩
     refine allOps_cons 1 ?_ ?_
     ·refine kF rfl ?_
      rintro L ac wx hL hd ⟨rfl, hG, Ap, Aq⟩
      obtain ⟨e0, -⟩ := hd
      refine wM (v := .pointer (some ⟨q, 0, none⟩)) rfl rfl ?_
      exact ⟨rfl, hG, Ap, Aq⟩
     refine allOps_cons 2 ?_ ?_
     ·refine kF rfl ?_
      rintro L ac wx hL hd ⟨rfl, hG, Ap, Aq⟩
      have HL := (hp2_19_c3).grl hG (n2 (Ne.symm np_p2_19) (Ne.symm nq_p2_19))
      refine wp_pS (v0 := .int .i64 (meetP a b).vl) (v1 := .int .i64 (meetP a b).vh) rfl rfl (HL) rfl rfl ?_
      exact ⟨rfl, hG, Ap, Aq⟩
     refine allOps_cons 3 ?_ ?_
     ·refine kF rfl ?_
      rintro L ac wx hL hd ⟨rfl, hG, Ap, Aq⟩
      obtain ⟨e0, -⟩ := hd
      have HL := (hp2_19_c3).grl hG (n2 (Ne.symm np_p2_19) (Ne.symm nq_p2_19))
      refine wp_pS (v0 := .int .i64 (meetP a b).vl) (v1 := .int .i64 (meetP a b).vh) rfl rfl (HL) rfl rfl ?_
      exact ⟨rfl, hG, Ap, Aq⟩
     refine allOps_cons 4 ?_ ?_
     ·refine kF rfl ?_
      rintro L ac wx hL hd ⟨rfl, hG, Ap, Aq⟩
      obtain ⟨e0, e1, e2, e3, e4, -⟩ := hd
      refine wp_nil (r := ⟨p, 0, none⟩) rfl (sel_of (e0 rfl)) ?_
      exact ⟨rfl, hG, Ap, Aq⟩
     refine allOps_cons 5 ?_ ?_
     ·refine kF rfl ?_
      rintro L ac wx hL hd ⟨rfl, hG, Ap, Aq⟩
      obtain ⟨e0, e1, e2, e3, e4, -⟩ := hd
      refine wp_fa4 rfl (sel_of (e0 rfl)) ?_
      exact ⟨rfl, hG, Ap, Aq⟩
     refine allOps_cons 6 ?_ ?_
     ·refine kF rfl ?_
      rintro L ac wx hL hd ⟨rfl, hG, Ap, Aq⟩
      obtain ⟨e0, e1, e2, e3, e4, e5, -⟩ := hd
      have HL := Ap; rw [hL] at HL
      refine wp_stV rfl (sel_of (e0 rfl)) (sel_of (e1 rfl)) HL ?_
      intro w1 hn hgx
      exact ⟨rfl, hG.thenx hgx (.inl m21), hn, Aq.grx hgx (Ne.symm hpq)⟩
     refine allOps_cons 7 ?_ ?_
     ·refine kF rfl ?_
      rintro L ac wx hL hd ⟨rfl, hG, Ap, Aq⟩
      obtain ⟨e0, e1, e2, e3, e4, e5, e6, e7, -⟩ := hd
      refine wp_nil (r := ⟨q, 0, none⟩) rfl (sel_of (e0 rfl)) ?_
      exact ⟨rfl, hG, Ap, Aq⟩
     refine allOps_cons 8 ?_ ?_
     ·refine kF rfl ?_
      rintro L ac wx hL hd ⟨rfl, hG, Ap, Aq⟩
      obtain ⟨e0, e1, e2, e3, e4, e5, e6, e7, -⟩ := hd
      refine wp_fa4 rfl (sel_of (e0 rfl)) ?_
      exact ⟨rfl, hG, Ap, Aq⟩
     refine allOps_cons 9 ?_ ?_
     ·refine kF rfl ?_
      rintro L ac wx hL hd ⟨rfl, hG, Ap, Aq⟩
      obtain ⟨e0, e1, e2, e3, e4, e5, e6, e7, e8, e9, -⟩ := hd
      have HL := Aq; rw [hL] at HL
      refine wp_stV rfl (sel_of (e0 rfl)) (sel_of (e1 rfl)) HL ?_
      intro w1 hn hgx
      exact ⟨rfl, hG.thenx hgx (.inl m22), Ap.grx hgx hpq, hn⟩
     exact allOps_nil 10
    case fin =>
     rintro L ac wf4 hall ⟨rfl, hG4, B4p, B4q⟩
     have l0 : L 0 = true := hall 0 (by decide)
     have l1 : L 1 = true := hall 1 (by decide)
     have l2 : L 2 = true := hall 2 (by decide)
     have l3 : L 3 = true := hall 3 (by decide)
     have l4 : L 4 = true := hall 4 (by decide)
     have l5 : L 5 = true := hall 5 (by decide)
     have l6 : L 6 = true := hall 6 (by decide)
     have l7 : L 7 = true := hall 7 (by decide)
     have l8 : L 8 = true := hall 8 (by decide)
     have l9 : L 9 = true := hall 9 (by decide)
     rw [l6] at B4p
     change AtA wf4 p (bv { { a with wl := (meetP a b).wl, wh := (meetP a b).wh } with vl := (meetP a b).vl, vh := (meetP a b).vh }) 30 at B4p
     rw [l9] at B4q
     change AtA wf4 q (bv { { b with wl := (meetP a b).wl, wh := (meetP a b).wh } with vl := (meetP a b).vl, vh := (meetP a b).vh }) 30 at B4q
     simp only [l0, l1, l2, l3, l4, l5, l7, l8, sel_t]
     have hp1_10_c4 := (hp1_10_c3).grl hG4 (n2 (Ne.symm np_p1_10) (Ne.symm nq_p1_10))
     have hp1_11_c4 := (hp1_11_c3).grl hG4 (n2 (Ne.symm np_p1_11) (Ne.symm nq_p1_11))
     have hp2_18_c4 := (hp2_18_c3).grl hG4 (n2 (Ne.symm np_p2_18) (Ne.symm nq_p2_18))
     have hp2_19_c4 := (hp2_19_c3).grl hG4 (n2 (Ne.symm np_p2_19) (Ne.symm nq_p2_19))
     have hF_c4 := (hF_c3).app hG4 (r2 (.inl m21) (.inl m22))
     clear l0 l1 l2 l3 l4 l5 l6 l7 l8 l9 hall
     obtain ⟨X1, hX1⟩ : ∃ X, { { a with wl := (meetP a b).wl, wh := (meetP a b).wh } with vl := (meetP a b).vl, vh := (meetP a b).vh } = X := ⟨_, rfl⟩
     have hhp : AtA wf4 p (bv X1) 30 := hX1 ▸ B4p
     have h1 : Tn.meetX X1.tv X1.tm (lowT b.tv) (lowT b.tm ||| hiM) = true := by rw [← hX1]; exact kh1
     obtain ⟨Y1, hY1⟩ : ∃ Y, ({ X1 with tv := Tn.mtV X1.tv X1.tm (lowT b.tv) (lowT b.tm ||| hiM), tm := Tn.mtM X1.tv X1.tm (lowT b.tv) (lowT b.tm ||| hiM) } : Bd) = Y := ⟨_, rfl⟩
     have kX1 : ∀ w (h : AtA w p (bv X1) 30), Calls Tryz.prog 240 #[.pointer (some ⟨p, 0, none⟩), .agg #[.int .u64 (iv (lowT b.tv)), .int .u64 (iv (lowT b.tm ||| hiM))]] w fun e w' => e = .returned (.bool true) ∧ AtA w' p (bv Y1) 30 ∧ GrX p w w' := fun w h => hY1 ▸ k_know X1 (lowT b.tv) (lowT b.tm ||| hiM) true h1 p w h
     obtain ⟨X2, hX2⟩ : ∃ X, { { b with wl := (meetP a b).wl, wh := (meetP a b).wh } with vl := (meetP a b).vl, vh := (meetP a b).vh } = X := ⟨_, rfl⟩
     have hhq : AtA wf4 q (bv X2) 30 := hX2 ▸ B4q
     have h2 : Tn.meetX X2.tv X2.tm (lowT a.tv) (lowT a.tm ||| hiM) = false := by rw [← hX2]; exact kh2
     obtain ⟨Y2, hY2⟩ : ∃ Y, ({ X2 with tv := Tn.mtV X2.tv X2.tm (lowT a.tv) (lowT a.tm ||| hiM), tm := Tn.mtM X2.tv X2.tm (lowT a.tv) (lowT a.tm ||| hiM) } : Bd) = Y := ⟨_, rfl⟩
     have kX2 : ∀ w (h : AtA w q (bv X2) 30), Calls Tryz.prog 240 #[.pointer (some ⟨q, 0, none⟩), .agg #[.int .u64 (iv (lowT a.tv)), .int .u64 (iv (lowT a.tm ||| hiM))]] w fun e w' => e = .returned (.bool false) ∧ AtA w' q (bv Y2) 30 ∧ GrX q w w' := fun w h => hY2 ▸ k_know X2 (lowT a.tv) (lowT a.tm ||| hiM) false h2 q w h
     go_upto_region 5 with fail
     refine wp_region_inv (by kernel_rfl) (fun L ac wx =>  ac = ⟨(.pointer (some ⟨p, 0, none⟩) :: .pointer (some ⟨q, 0, none⟩) :: undef :: undef :: sel (L 12) (.bool false) (.bool false) :: .pointer (some ⟨p1_10, 0, none⟩) :: .pointer (some ⟨p1_11, 0, none⟩) :: .pointer (some ⟨p2_18, 0, none⟩) :: .pointer (some ⟨p2_19, 0, none⟩) :: .pointer (some ⟨p, 0, none⟩) :: .pointer (some ⟨p, 0, none⟩) :: .pointer (some ⟨p, 0, none⟩) :: .agg #[.int .u64 (iv a.tv), .int .u64 (iv a.tm)] :: .agg #[.int .u64 (iv (lowT a.tv)), .int .u64 (iv (lowT a.tm ||| hiM))] :: .pointer (some ⟨q, 0, none⟩) :: .pointer (some ⟨q, 0, none⟩) :: .pointer (some ⟨q, 0, none⟩) :: .agg #[.int .u64 (iv b.tv), .int .u64 (iv b.tm)] :: .agg #[.int .u64 (iv (lowT b.tv)), .int .u64 (iv (lowT b.tm ||| hiM))] :: .pointer (some ⟨p, 0, none⟩) :: .pointer (some ⟨p, 0, none⟩) :: .pointer (some ⟨p, 6, none⟩) :: .agg #[.int .u64 a.wl, .int .u64 a.wh] :: .pointer (some ⟨q, 0, none⟩) :: .pointer (some ⟨q, 0, none⟩) :: .pointer (some ⟨q, 6, none⟩) :: .agg #[.int .u64 b.wl, .int .u64 b.wh] :: .agg #[.int .u64 (meetP a b).wl, .int .u64 (meetP a b).wh] :: .pointer (some ⟨p, 0, none⟩) :: .pointer (some ⟨p, 0, none⟩) :: .pointer (some ⟨p, 8, none⟩) :: .agg #[.int .i64 a.vl, .int .i64 a.vh] :: .pointer (some ⟨q, 0, none⟩) :: .pointer (some ⟨q, 0, none⟩) :: .pointer (some ⟨q, 8, none⟩) :: .agg #[.int .i64 b.vl, .int .i64 b.vh] :: .agg #[.int .i64 (meetP a b).vl, .int .i64 (meetP a b).vh] :: .pointer (some ⟨p, 0, none⟩) :: .pointer (some ⟨q, 0, none⟩) :: .agg #[.int .u64 (meetP a b).wl, .int .u64 (meetP a b).wh] :: .agg #[.int .u64 (meetP a b).wl, .int .u64 (meetP a b).wh] :: .pointer (some ⟨p, 0, none⟩) :: .pointer (some ⟨p, 6, none⟩) :: .pointer (some ⟨q, 0, none⟩) :: .pointer (some ⟨q, 6, none⟩) :: .pointer (some ⟨p, 0, none⟩) :: .pointer (some ⟨q, 0, none⟩) :: .agg #[.int .i64 (meetP a b).vl, .int .i64 (meetP a b).vh] :: .agg #[.int .i64 (meetP a b).vl, .int .i64 (meetP a b).vh] :: .pointer (some ⟨p, 0, none⟩) :: .pointer (some ⟨p, 8, none⟩) :: .pointer (some ⟨q, 0, none⟩) :: .pointer (some ⟨q, 8, none⟩) :: sel (L 0) (.pointer (some ⟨p, 0, none⟩)) (undef) :: sel (L 1) (.pointer (some ⟨p, 0, none⟩)) (undef) :: sel (L 2) (.pointer (some ⟨p, 0, none⟩)) (undef) :: sel (L 3) (.agg #[.int .u64 (iv (lowT b.tv)), .int .u64 (iv (lowT b.tm ||| hiM))]) (undef) :: sel (L 4) (.bool true) (undef) :: sel (L 5) (.bool true) (undef) :: sel (L 6) (.pointer (some ⟨q, 0, none⟩)) (undef) :: sel (L 7) (.pointer (some ⟨q, 0, none⟩)) (undef) :: sel (L 8) (.pointer (some ⟨q, 0, none⟩)) (undef) :: sel (L 9) (.agg #[.int .u64 (iv (lowT a.tv)), .int .u64 (iv (lowT a.tm ||| hiM))]) (undef) :: sel (L 10) (.bool false) (undef) :: sel (L 11) (.bool false) (undef) :: [] : List Value).toArray, []⟩ ∧ GrL [p, q] wf4 wx ∧ AtA wx p (sel (L 4) (bv Y1) (bv X1)) 30 ∧ AtA wx q (sel (L 10) (bv Y2) (bv X2)) 30) (by kernel_rfl) ?h0 ?step ?fin
     case h0 => exact ⟨rfl, GrL.of (Gr.drew (Gr.refl _)), (hhp).drew, (hhq).drew⟩
     case step =>
      refine allOps_cons 0 ?_ ?_
      ·refine kF rfl ?_
       rintro L ac wx hL hd ⟨rfl, hG, Ap, Aq⟩
       refine wM (v := .pointer (some ⟨p, 0, none⟩)) rfl rfl ?_
       exact ⟨rfl, hG, Ap, Aq⟩
      refine allOps_cons 1 ?_ ?_
      ·refine kF rfl ?_
       rintro L ac wx hL hd ⟨rfl, hG, Ap, Aq⟩
       obtain ⟨e0, -⟩ := hd
       refine wp_nil (r := ⟨p, 0, none⟩) rfl (sel_of (e0 rfl)) ?_
       exact ⟨rfl, hG, Ap, Aq⟩
      refine allOps_cons 2 ?_ ?_
      ·refine kF rfl ?_
       rintro L ac wx hL hd ⟨rfl, hG, Ap, Aq⟩
       obtain ⟨e0, -⟩ := hd
       refine wp_fa0 rfl (sel_of (e0 rfl)) ?_
       exact ⟨rfl, hG, Ap, Aq⟩
      refine allOps_cons 3 ?_ ?_
      ·refine kF rfl ?_
       rintro L ac wx hL hd ⟨rfl, hG, Ap, Aq⟩
       have HL := (hp1_11_c4).grl hG (n2 (Ne.symm np_p1_11) (Ne.symm nq_p1_11))
       refine wp_pT (v0 := .int .u64 (iv (lowT b.tv))) (v1 := .int .u64 (iv (lowT b.tm ||| hiM))) rfl rfl (HL) rfl rfl ?_
       exact ⟨rfl, hG, Ap, Aq⟩
      refine allOps_cons 4 ?_ ?_
      ·refine kF rfl ?_
       rintro L ac wx hL hd ⟨rfl, hG, Ap, Aq⟩
       obtain ⟨e0, e1, -⟩ := hd
       have HL := Ap; rw [hL] at HL
       refine wp_call2 rfl (sel_of (e0 rfl)) (sel_of (e1 rfl)) (by go_simp) ?_
       refine (kX1 _ HL).mono ?_
       rintro e w1 ⟨rfl, hn, hgx⟩
       refine ⟨_, rfl, ?_⟩
       exact ⟨rfl, hG.thenx hgx (.inl m21), hn, Aq.grx hgx (Ne.symm hpq)⟩
      refine allOps_cons 5 ?_ ?_
      ·refine kF rfl ?_
       rintro L ac wx hL hd ⟨rfl, hG, Ap, Aq⟩
       obtain ⟨e0, e1, -⟩ := hd
       refine wM (v := .bool true) rfl (sel_of (e0 rfl)) ?_
       exact ⟨rfl, hG, Ap, Aq⟩
      refine allOps_cons 6 ?_ ?_
      ·refine keeps_yes ?_
       rintro L ac wx hL hd ⟨rfl, hG, Ap, Aq⟩
       obtain ⟨e0, -⟩ := hd
       refine ⟨wanted_of (k := 5) (b := true) (c := true) rfl rfl rfl rfl (sel_of (e0 rfl)) rfl, ?_⟩
       refine wM (v := .pointer (some ⟨q, 0, none⟩)) rfl rfl ?_
       exact ⟨rfl, hG, Ap, Aq⟩
      refine allOps_cons 7 ?_ ?_
      ·refine keeps_yes ?_
       rintro L ac wx hL hd ⟨rfl, hG, Ap, Aq⟩
       obtain ⟨e0, e1, -⟩ := hd
       refine ⟨wanted_of (k := 5) (b := true) (c := true) rfl rfl rfl rfl (sel_of (e1 rfl)) rfl, ?_⟩
       refine wp_nil (r := ⟨q, 0, none⟩) rfl (sel_of (e0 rfl)) ?_
       exact ⟨rfl, hG, Ap, Aq⟩
      refine allOps_cons 8 ?_ ?_
      ·refine keeps_yes ?_
       rintro L ac wx hL hd ⟨rfl, hG, Ap, Aq⟩
       obtain ⟨e0, e1, -⟩ := hd
       refine ⟨wanted_of (k := 5) (b := true) (c := true) rfl rfl rfl rfl (sel_of (e1 rfl)) rfl, ?_⟩
       refine wp_fa0 rfl (sel_of (e0 rfl)) ?_
       exact ⟨rfl, hG, Ap, Aq⟩
      refine allOps_cons 9 ?_ ?_
      ·refine keeps_yes ?_
       rintro L ac wx hL hd ⟨rfl, hG, Ap, Aq⟩
       obtain ⟨e0, -⟩ := hd
       refine ⟨wanted_of (k := 5) (b := true) (c := true) rfl rfl rfl rfl (sel_of (e0 rfl)) rfl, ?_⟩
       have HL := (hp1_10_c4).grl hG (n2 (Ne.symm np_p1_10) (Ne.symm nq_p1_10))
       refine wp_pT (v0 := .int .u64 (iv (lowT a.tv))) (v1 := .int .u64 (iv (lowT a.tm ||| hiM))) rfl rfl (HL) rfl rfl ?_
       exact ⟨rfl, hG, Ap, Aq⟩
      refine allOps_cons 10 ?_ ?_
      ·refine keeps_yes ?_
       rintro L ac wx hL hd ⟨rfl, hG, Ap, Aq⟩
       obtain ⟨e0, e1, e2, e3, -⟩ := hd
       refine ⟨wanted_of (k := 5) (b := true) (c := true) rfl rfl rfl rfl (sel_of (e2 rfl)) rfl, ?_⟩
       have HL := Aq; rw [hL] at HL
       refine wp_call2 rfl (sel_of (e0 rfl)) (sel_of (e1 rfl)) (by go_simp) ?_
       refine (kX2 _ HL).mono ?_
       rintro e w1 ⟨rfl, hn, hgx⟩
       refine ⟨_, rfl, ?_⟩
       exact ⟨rfl, hG.thenx hgx (.inl m22), Ap.grx hgx hpq, hn⟩
      refine allOps_cons 11 ?_ ?_
      ·refine kF rfl ?_
       rintro L ac wx hL hd ⟨rfl, hG, Ap, Aq⟩
       obtain ⟨e0, e1, -⟩ := hd
       refine wp_pickT (v := .bool false) rfl (sel_of (e0 rfl)) (sel_of (e1 rfl)) ?_
       exact ⟨rfl, hG, Ap, Aq⟩
      refine allOps_cons 12 ?_ ?_
      ·refine kF rfl ?_
       rintro L ac wx hL hd ⟨rfl, hG, Ap, Aq⟩
       obtain ⟨e0, e1, e2, e3, e4, e5, e6, e7, e8, e9, e10, e11, e12, e13, -⟩ := hd
       refine wA (v := .bool false) rfl (sel_of (e0 rfl)) ?_
       exact ⟨rfl, hG, Ap, Aq⟩
      exact allOps_nil 13
     case fin =>
      rintro L ac wf5 hall ⟨rfl, hG5, B5p, B5q⟩
      have l0 : L 0 = true := hall 0 (by decide)
      have l1 : L 1 = true := hall 1 (by decide)
      have l2 : L 2 = true := hall 2 (by decide)
      have l3 : L 3 = true := hall 3 (by decide)
      have l4 : L 4 = true := hall 4 (by decide)
      have l5 : L 5 = true := hall 5 (by decide)
      have l6 : L 6 = true := hall 6 (by decide)
      have l7 : L 7 = true := hall 7 (by decide)
      have l8 : L 8 = true := hall 8 (by decide)
      have l9 : L 9 = true := hall 9 (by decide)
      have l10 : L 10 = true := hall 10 (by decide)
      have l11 : L 11 = true := hall 11 (by decide)
      have l12 : L 12 = true := hall 12 (by decide)
      rw [l4] at B5p
      change AtA wf5 p (bv Y1) 30 at B5p
      rw [l10] at B5q
      change AtA wf5 q (bv Y2) 30 at B5q
      simp only [l0, l1, l2, l3, l4, l5, l6, l7, l8, l9, l10, l11, l12, sel_t]
      have hp1_10_c5 := (hp1_10_c4).grl hG5 (n2 (Ne.symm np_p1_10) (Ne.symm nq_p1_10))
      have hp1_11_c5 := (hp1_11_c4).grl hG5 (n2 (Ne.symm np_p1_11) (Ne.symm nq_p1_11))
      have hp2_18_c5 := (hp2_18_c4).grl hG5 (n2 (Ne.symm np_p2_18) (Ne.symm nq_p2_18))
      have hp2_19_c5 := (hp2_19_c4).grl hG5 (n2 (Ne.symm np_p2_19) (Ne.symm nq_p2_19))
      have hF_c5 := (hF_c4).app hG5 (r2 (.inl m21) (.inl m22))
      clear l0 l1 l2 l3 l4 l5 l6 l7 l8 l9 l10 l11 l12 hall
      go_wp2
      go_ret
      exact ⟨rfl, hF_c5⟩
set_option maxHeartbeats 16000000 in
theorem halves_tt (a b : Bd) (p q : Nat) (w : World) (hpq : p ≠ q) (HA : AtA w p (bv a) 30) (HB : AtA w q (bv b) 30) (kh1 : Tn.meetX a.tv a.tm (lowT b.tv) (lowT b.tm ||| hiM) = true) (kh2 : Tn.meetX b.tv b.tm (lowT a.tv) (lowT a.tm ||| hiM) = true) : Calls Tryz.prog 262 #[.pointer (some ⟨p, 0, none⟩), .pointer (some ⟨q, 0, none⟩)] w fun e w' => e = .returned (.bool true) ∧ AtA w' p (bv { a with tv := Tn.mtV a.tv a.tm (lowT b.tv) (lowT b.tm ||| hiM), tm := Tn.mtM a.tv a.tm (lowT b.tv) (lowT b.tm ||| hiM), wl := (meetP a b).wl, wh := (meetP a b).wh, vl := (meetP a b).vl, vh := (meetP a b).vh }) 30 ∧ AtA w' q (bv { b with tv := Tn.mtV b.tv b.tm (lowT a.tv) (lowT a.tm ||| hiM), tm := Tn.mtM b.tv b.tm (lowT a.tv) (lowT a.tm ||| hiM), wl := (meetP a b).wl, wh := (meetP a b).wh, vl := (meetP a b).vl, vh := (meetP a b).vh }) 30 ∧ GrL [p, q] w w' := by
 go_enter Tryz.func262, Tryz.ntmps262
 go_upto_region 0 with fail
 refine rG ?_
 refine sF rfl ?_
 refine wA (v := .bool false) rfl rfl ?_
 simp only [Act.put, zs, z0, z1]
 refine s_end ?_
 go_upto_region 1 with fail
 refine wp_region_inv (by kernel_rfl) (fun L ac wx => ∃ (p1_10 : Nat) (p1_11 : Nat), ac = ⟨(.pointer (some ⟨p, 0, none⟩) :: .pointer (some ⟨q, 0, none⟩) :: undef :: undef :: .bool false :: sel (L 10) (.pointer (some ⟨p1_10, 0, none⟩)) (undef) :: sel (L 11) (.pointer (some ⟨p1_11, 0, none⟩)) (undef) :: undef :: undef :: sel (L 0) (.pointer (some ⟨p, 0, none⟩)) (undef) :: sel (L 1) (.pointer (some ⟨p, 0, none⟩)) (undef) :: sel (L 2) (.pointer (some ⟨p, 0, none⟩)) (undef) :: sel (L 3) (.agg #[.int .u64 (iv a.tv), .int .u64 (iv a.tm)]) (undef) :: sel (L 4) (.agg #[.int .u64 (iv (lowT a.tv)), .int .u64 (iv (lowT a.tm ||| hiM))]) (undef) :: sel (L 5) (.pointer (some ⟨q, 0, none⟩)) (undef) :: sel (L 6) (.pointer (some ⟨q, 0, none⟩)) (undef) :: sel (L 7) (.pointer (some ⟨q, 0, none⟩)) (undef) :: sel (L 8) (.agg #[.int .u64 (iv b.tv), .int .u64 (iv b.tm)]) (undef) :: sel (L 9) (.agg #[.int .u64 (iv (lowT b.tv)), .int .u64 (iv (lowT b.tm ||| hiM))]) (undef) :: undef :: undef :: undef :: undef :: undef :: undef :: undef :: undef :: undef :: undef :: undef :: undef :: undef :: undef :: undef :: undef :: undef :: undef :: undef :: undef :: undef :: undef :: undef :: undef :: undef :: undef :: undef :: undef :: undef :: undef :: undef :: undef :: undef :: undef :: undef :: undef :: undef :: undef :: undef :: undef :: undef :: undef :: undef :: undef :: undef :: undef :: [] : List Value).toArray, []⟩ ∧ GrL [] w wx ∧ (L 10 = true → w.heap.size ≤ p1_10 ∧ AtA wx p1_10 (sel (L 12) (#[.int .u64 (iv (lowT a.tv)), .int .u64 (iv (lowT a.tm ||| hiM))]) (#[.int .u64 0, .int .u64 0])) 24) ∧ (L 11 = true → w.heap.size ≤ p1_11 ∧ AtA wx p1_11 (sel (L 13) (#[.int .u64 (iv (lowT b.tv)), .int .u64 (iv (lowT b.tm ||| hiM))]) (#[.int .u64 0, .int .u64 0])) 24) ∧ (L 12 = true → L 10 = true) ∧ (L 13 = true → L 11 = true) ∧ (L 10 = true → L 11 = true → p1_10 ≠ p1_11)) (by kernel_rfl) ?h0 ?step ?fin
 case h0 => exact ⟨0, 0, rfl, GrL.of (Gr.drew (Gr.refl _)), (fun h => by cases h), (fun h => by cases h), (fun h => by cases h), (fun h => by cases h), (fun h => by cases h)⟩
 case step =>
  refine allOps_cons 0 ?_ ?_
  ·refine kF rfl ?_
   rintro L ac wx hL hd ⟨p1_10, p1_11, rfl, hG, f10, f11, s12, s13, g10_11⟩
   refine wM (v := .pointer (some ⟨p, 0, none⟩)) rfl rfl ?_
   exact ⟨p1_10, p1_11, rfl, hG, f10, f11, s12, s13, g10_11⟩
  refine allOps_cons 1 ?_ ?_
  ·refine kF rfl ?_
   rintro L ac wx hL hd ⟨p1_10, p1_11, rfl, hG, f10, f11, s12, s13, g10_11⟩
   obtain ⟨e0, -⟩ := hd
   refine wp_nil (r := ⟨p, 0, none⟩) rfl (sel_of (e0 rfl)) ?_
   exact ⟨p1_10, p1_11, rfl, hG, f10, f11, s12, s13, g10_11⟩
  refine allOps_cons 2 ?_ ?_
  ·refine kF rfl ?_
   rintro L ac wx hL hd ⟨p1_10, p1_11, rfl, hG, f10, f11, s12, s13, g10_11⟩
   obtain ⟨e0, -⟩ := hd
   refine wp_fa0 rfl (sel_of (e0 rfl)) ?_
   exact ⟨p1_10, p1_11, rfl, hG, f10, f11, s12, s13, g10_11⟩
  refine allOps_cons 3 ?_ ?_
  ·refine kF rfl ?_
   rintro L ac wx hL hd ⟨p1_10, p1_11, rfl, hG, f10, f11, s12, s13, g10_11⟩
   obtain ⟨e0, -⟩ := hd
   have HL := (HA).grl hG n0
   refine wp_pT (v0 := .int .u64 (iv a.tv)) (v1 := .int .u64 (iv a.tm)) rfl (sel_of (e0 rfl)) (HL) rfl rfl ?_
   exact ⟨p1_10, p1_11, rfl, hG, f10, f11, s12, s13, g10_11⟩
  refine allOps_cons 4 ?_ ?_
  ·refine kF rfl ?_
   rintro L ac wx hL hd ⟨p1_10, p1_11, rfl, hG, f10, f11, s12, s13, g10_11⟩
   obtain ⟨e0, -⟩ := hd
   refine wp_call1 rfl (sel_of (e0 rfl)) (by go_simp) ?_
   refine ((fun w => k_lowerBits a.tv a.tm w) _).mono ?_
   rintro e w1 ⟨rfl, hg⟩
   refine ⟨_, rfl, ?_⟩
   exact ⟨p1_10, p1_11, rfl, hG.then hg, fun h => ⟨(f10 h).1, (f10 h).2.gr hg⟩, fun h => ⟨(f11 h).1, (f11 h).2.gr hg⟩, s12, s13, g10_11⟩
  refine allOps_cons 5 ?_ ?_
  ·refine kF rfl ?_
   rintro L ac wx hL hd ⟨p1_10, p1_11, rfl, hG, f10, f11, s12, s13, g10_11⟩
   refine wM (v := .pointer (some ⟨q, 0, none⟩)) rfl rfl ?_
   exact ⟨p1_10, p1_11, rfl, hG, f10, f11, s12, s13, g10_11⟩
  refine allOps_cons 6 ?_ ?_
  ·refine kF rfl ?_
   rintro L ac wx hL hd ⟨p1_10, p1_11, rfl, hG, f10, f11, s12, s13, g10_11⟩
   obtain ⟨e0, -⟩ := hd
   refine wp_nil (r := ⟨q, 0, none⟩) rfl (sel_of (e0 rfl)) ?_
   exact ⟨p1_10, p1_11, rfl, hG, f10, f11, s12, s13, g10_11⟩
  refine allOps_cons 7 ?_ ?_
  ·refine kF rfl ?_
   rintro L ac wx hL hd ⟨p1_10, p1_11, rfl, hG, f10, f11, s12, s13, g10_11⟩
   obtain ⟨e0, -⟩ := hd
   refine wp_fa0 rfl (sel_of (e0 rfl)) ?_
   exact ⟨p1_10, p1_11, rfl, hG, f10, f11, s12, s13, g10_11⟩
  refine allOps_cons 8 ?_ ?_
  ·refine kF rfl ?_
   rintro L ac wx hL hd ⟨p1_10, p1_11, rfl, hG, f10, f11, s12, s13, g10_11⟩
   obtain ⟨e0, -⟩ := hd
   have HL := (HB).grl hG n0
   refine wp_pT (v0 := .int .u64 (iv b.tv)) (v1 := .int .u64 (iv b.tm)) rfl (sel_of (e0 rfl)) (HL) rfl rfl ?_
   exact ⟨p1_10, p1_11, rfl, hG, f10, f11, s12, s13, g10_11⟩
  refine allOps_cons 9 ?_ ?_
  ·refine kF rfl ?_
   rintro L ac wx hL hd ⟨p1_10, p1_11, rfl, hG, f10, f11, s12, s13, g10_11⟩
   obtain ⟨e0, e1, -⟩ := hd
   refine wp_call1 rfl (sel_of (e0 rfl)) (by go_simp) ?_
   refine ((fun w => k_lowerBits b.tv b.tm w) _).mono ?_
   rintro e w1 ⟨rfl, hg⟩
   refine ⟨_, rfl, ?_⟩
   exact ⟨p1_10, p1_11, rfl, hG.then hg, fun h => ⟨(f10 h).1, (f10 h).2.gr hg⟩, fun h => ⟨(f11 h).1, (f11 h).2.gr hg⟩, s12, s13, g10_11⟩
  refine allOps_cons 10 ?_ ?_
  ·refine kF rfl ?_
   rintro L ac wx hL hd ⟨p1_10, p1_11, rfl, hG, f10, f11, s12, s13, g10_11⟩
   have ls : L 12 = false := by
    cases h : L 12 with
    | false => rfl
    | true => have := s12 h; rw [hL] at this; cases this
   refine wp_allocT rfl ?_
   intro w1 hn hg
   exact ⟨wx.heap.size, p1_11, rfl, hG.then hg, fun _ => ⟨hG.size, by rw [show upd L 10 12 = false from ls]; exact hn⟩, fun h => ⟨(f11 h).1, (f11 h).2.gr hg⟩, fun _ => rfl, s13, fun _ h => by have z := (f11 h).2.lt; omega⟩
  refine allOps_cons 11 ?_ ?_
  ·refine kF rfl ?_
   rintro L ac wx hL hd ⟨p1_10, p1_11, rfl, hG, f10, f11, s12, s13, g10_11⟩
   have ls : L 13 = false := by
    cases h : L 13 with
    | false => rfl
    | true => have := s13 h; rw [hL] at this; cases this
   refine wp_allocT rfl ?_
   intro w1 hn hg
   exact ⟨p1_10, wx.heap.size, rfl, hG.then hg, fun h => ⟨(f10 h).1, (f10 h).2.gr hg⟩, fun _ => ⟨hG.size, by rw [show upd L 11 13 = false from ls]; exact hn⟩, s12, fun _ => rfl, fun h _ => by have z := (f10 h).2.lt; omega⟩
  refine allOps_cons 12 ?_ ?_
  ·refine kF rfl ?_
   rintro L ac wx hL hd ⟨p1_10, p1_11, rfl, hG, f10, f11, s12, s13, g10_11⟩
   obtain ⟨e0, e1, e2, e3, e4, e5, e6, e7, e8, e9, e10, e11, e12, e13, e14, -⟩ := hd
   have lp : L 10 = true := e0 rfl
   obtain ⟨k10, z10⟩ := f10 lp
   have HL := z10; rw [hL] at HL
   refine wp_storeT rfl (sel_of (e0 rfl)) (sel_of (e1 rfl)) HL ?_
   intro w1 hn hgx
   exact ⟨p1_10, p1_11, rfl, hG.thenx hgx (.inr k10), fun _ => ⟨k10, hn⟩, fun h => ⟨(f11 h).1, (f11 h).2.grx hgx (Ne.symm (g10_11 lp h))⟩, fun _ => lp, s13, g10_11⟩
  refine allOps_cons 13 ?_ ?_
  ·refine kF rfl ?_
   rintro L ac wx hL hd ⟨p1_10, p1_11, rfl, hG, f10, f11, s12, s13, g10_11⟩
   obtain ⟨e0, e1, e2, e3, e4, e5, e6, e7, e8, e9, e10, e11, e12, e13, e14, e15, -⟩ := hd
   have lp : L 11 = true := e0 rfl
   obtain ⟨k11, z11⟩ := f11 lp
   have HL := z11; rw [hL] at HL
   refine wp_storeT rfl (sel_of (e0 rfl)) (sel_of (e1 rfl)) HL ?_
   intro w1 hn hgx
   exact ⟨p1_10, p1_11, rfl, hG.thenx hgx (.inr k11), fun h => ⟨(f10 h).1, (f10 h).2.grx hgx (g10_11 h lp)⟩, fun _ => ⟨k11, hn⟩, s12, fun _ => lp, g10_11⟩
  exact allOps_nil 14
 case fin =>
  rintro L ac wf1 hall ⟨p1_10, p1_11, rfl, hG1, f10, f11, s12, s13, g10_11⟩
  have l0 : L 0 = true := hall 0 (by decide)
  have l1 : L 1 = true := hall 1 (by decide)
  have l2 : L 2 = true := hall 2 (by decide)
  have l3 : L 3 = true := hall 3 (by decide)
  have l4 : L 4 = true := hall 4 (by decide)
  have l5 : L 5 = true := hall 5 (by decide)
  have l6 : L 6 = true := hall 6 (by decide)
  have l7 : L 7 = true := hall 7 (by decide)
  have l8 : L 8 = true := hall 8 (by decide)
  have l9 : L 9 = true := hall 9 (by decide)
  have l10 : L 10 = true := hall 10 (by decide)
  have l11 : L 11 = true := hall 11 (by decide)
  have l12 : L 12 = true := hall 12 (by decide)
  have l13 : L 13 = true := hall 13 (by decide)
  obtain ⟨kp1_10, zp1_10⟩ := f10 l10
  rw [l12] at zp1_10
  change AtA wf1 p1_10 (#[.int .u64 (iv (lowT a.tv)), .int .u64 (iv (lowT a.tm ||| hiM))]) 24 at zp1_10
  obtain ⟨kp1_11, zp1_11⟩ := f11 l11
  rw [l13] at zp1_11
  change AtA wf1 p1_11 (#[.int .u64 (iv (lowT b.tv)), .int .u64 (iv (lowT b.tm ||| hiM))]) 24 at zp1_11
  have np1_10_p1_11 := g10_11 l10 l11
  simp only [l0, l1, l2, l3, l4, l5, l6, l7, l8, l9, l10, l11, sel_t]
  have np_p1_10 : p ≠ p1_10 := Nat.ne_of_lt (Nat.lt_of_lt_of_le (HA).lt kp1_10)
  have np_p1_11 : p ≠ p1_11 := Nat.ne_of_lt (Nat.lt_of_lt_of_le (HA).lt kp1_11)
  have nq_p1_10 : q ≠ p1_10 := Nat.ne_of_lt (Nat.lt_of_lt_of_le (HB).lt kp1_10)
  have nq_p1_11 : q ≠ p1_11 := Nat.ne_of_lt (Nat.lt_of_lt_of_le (HB).lt kp1_11)
  have frp1_10 := Nat.le_trans (GrL.refl [p, q] w).size kp1_10
  have frp1_11 := Nat.le_trans (GrL.refl [p, q] w).size kp1_11
  have hp_c1 := (HA).grl hG1 n0
  have hq_c1 := (HB).grl hG1 n0
  have hF_c1 := (GrL.refl [p, q] w).app hG1 (r0 )
  clear l0 l1 l2 l3 l4 l5 l6 l7 l8 l9 l10 l11 l12 l13 hall f10 f11 s12 s13 g10_11
  go_upto_region 2 with fail
  refine wp_region_inv (by kernel_rfl) (fun L ac wx => ∃ (p2_18 : Nat) (p2_19 : Nat), ac = ⟨(.pointer (some ⟨p, 0, none⟩) :: .pointer (some ⟨q, 0, none⟩) :: undef :: undef :: .bool false :: .pointer (some ⟨p1_10, 0, none⟩) :: .pointer (some ⟨p1_11, 0, none⟩) :: sel (L 18) (.pointer (some ⟨p2_18, 0, none⟩)) (undef) :: sel (L 19) (.pointer (some ⟨p2_19, 0, none⟩)) (undef) :: .pointer (some ⟨p, 0, none⟩) :: .pointer (some ⟨p, 0, none⟩) :: .pointer (some ⟨p, 0, none⟩) :: .agg #[.int .u64 (iv a.tv), .int .u64 (iv a.tm)] :: .agg #[.int .u64 (iv (lowT a.tv)), .int .u64 (iv (lowT a.tm ||| hiM))] :: .pointer (some ⟨q, 0, none⟩) :: .pointer (some ⟨q, 0, none⟩) :: .pointer (some ⟨q, 0, none⟩) :: .agg #[.int .u64 (iv b.tv), .int .u64 (iv b.tm)] :: .agg #[.int .u64 (iv (lowT b.tv)), .int .u64 (iv (lowT b.tm ||| hiM))] :: sel (L 0) (.pointer (some ⟨p, 0, none⟩)) (undef) :: sel (L 1) (.pointer (some ⟨p, 0, none⟩)) (undef) :: sel (L 2) (.pointer (some ⟨p, 6, none⟩)) (undef) :: sel (L 3) (.agg #[.int .u64 a.wl, .int .u64 a.wh]) (undef) :: sel (L 4) (.pointer (some ⟨q, 0, none⟩)) (undef) :: sel (L 5) (.pointer (some ⟨q, 0, none⟩)) (undef) :: sel (L 6) (.pointer (some ⟨q, 6, none⟩)) (undef) :: sel (L 7) (.agg #[.int .u64 b.wl, .int .u64 b.wh]) (undef) :: sel (L 8) (.agg #[.int .u64 (meetP a b).wl, .int .u64 (meetP a b).wh]) (undef) :: sel (L 9) (.pointer (some ⟨p, 0, none⟩)) (undef) :: sel (L 10) (.pointer (some ⟨p, 0, none⟩)) (undef) :: sel (L 11) (.pointer (some ⟨p, 8, none⟩)) (undef) :: sel (L 12) (.agg #[.int .i64 a.vl, .int .i64 a.vh]) (undef) :: sel (L 13) (.pointer (some ⟨q, 0, none⟩)) (undef) :: sel (L 14) (.pointer (some ⟨q, 0, none⟩)) (undef) :: sel (L 15) (.pointer (some ⟨q, 8, none⟩)) (undef) :: sel (L 16) (.agg #[.int .i64 b.vl, .int .i64 b.vh]) (undef) :: sel (L 17) (.agg #[.int .i64 (meetP a b).vl, .int .i64 (meetP a b).vh]) (undef) :: undef :: undef :: undef :: undef :: undef :: undef :: undef :: undef :: undef :: undef :: undef :: undef :: undef :: undef :: undef :: undef :: undef :: undef :: undef :: undef :: undef :: undef :: undef :: undef :: undef :: undef :: undef :: undef :: [] : List Value).toArray, []⟩ ∧ GrL [] wf1 wx ∧ (L 18 = true → wf1.heap.size ≤ p2_18 ∧ AtA wx p2_18 (sel (L 20) (#[.int .u64 (meetP a b).wl, .int .u64 (meetP a b).wh]) (#[.int .u64 0, .int .u64 0])) 26) ∧ (L 19 = true → wf1.heap.size ≤ p2_19 ∧ AtA wx p2_19 (sel (L 21) (#[.int .i64 (meetP a b).vl, .int .i64 (meetP a b).vh]) (#[.int .i64 0, .int .i64 0])) 28) ∧ (L 20 = true → L 18 = true) ∧ (L 21 = true → L 19 = true) ∧ (L 18 = true → L 19 = true → p2_18 ≠ p2_19)) (by kernel_rfl) ?h0 ?step ?fin
  case h0 => exact ⟨0, 0, rfl, GrL.of (Gr.drew (Gr.refl _)), (fun h => by cases h), (fun h => by cases h), (fun h => by cases h), (fun h => by cases h), (fun h => by cases h)⟩
  case step =>
   refine allOps_cons 0 ?_ ?_
   ·refine kF rfl ?_
    rintro L ac wx hL hd ⟨p2_18, p2_19, rfl, hG, f18, f19, s20, s21, g18_19⟩
    refine wM (v := .pointer (some ⟨p, 0, none⟩)) rfl rfl ?_
    exact ⟨p2_18, p2_19, rfl, hG, f18, f19, s20, s21, g18_19⟩
   refine allOps_cons 1 ?_ ?_
   ·refine kF rfl ?_
    rintro L ac wx hL hd ⟨p2_18, p2_19, rfl, hG, f18, f19, s20, s21, g18_19⟩
    obtain ⟨e0, -⟩ := hd
    refine wp_nil (r := ⟨p, 0, none⟩) rfl (sel_of (e0 rfl)) ?_
    exact ⟨p2_18, p2_19, rfl, hG, f18, f19, s20, s21, g18_19⟩
   refine allOps_cons 2 ?_ ?_
   ·refine kF rfl ?_
    rintro L ac wx hL hd ⟨p2_18, p2_19, rfl, hG, f18, f19, s20, s21, g18_19⟩
    obtain ⟨e0, -⟩ := hd
    refine wp_fa3 rfl (sel_of (e0 rfl)) ?_
    exact ⟨p2_18, p2_19, rfl, hG, f18, f19, s20, s21, g18_19⟩
   refine allOps_cons 3 ?_ ?_
   ·refine kF rfl ?_
    rintro L ac wx hL hd ⟨p2_18, p2_19, rfl, hG, f18, f19, s20, s21, g18_19⟩
    obtain ⟨e0, -⟩ := hd
    have HL := (hp_c1).grl hG n0
    refine wp_pU (v0 := .int .u64 a.wl) (v1 := .int .u64 a.wh) rfl (sel_of (e0 rfl)) (HL) rfl rfl ?_
    exact ⟨p2_18, p2_19, rfl, hG, f18, f19, s20, s21, g18_19⟩
   refine allOps_cons 4 ?_ ?_
   ·refine kF rfl ?_
    rintro L ac wx hL hd ⟨p2_18, p2_19, rfl, hG, f18, f19, s20, s21, g18_19⟩
    refine wM (v := .pointer (some ⟨q, 0, none⟩)) rfl rfl ?_
    exact ⟨p2_18, p2_19, rfl, hG, f18, f19, s20, s21, g18_19⟩
   refine allOps_cons 5 ?_ ?_
   ·refine kF rfl ?_
    rintro L ac wx hL hd ⟨p2_18, p2_19, rfl, hG, f18, f19, s20, s21, g18_19⟩
    obtain ⟨e0, -⟩ := hd
    refine wp_nil (r := ⟨q, 0, none⟩) rfl (sel_of (e0 rfl)) ?_
    exact ⟨p2_18, p2_19, rfl, hG, f18, f19, s20, s21, g18_19⟩
   refine allOps_cons 6 ?_ ?_
   ·refine kF rfl ?_
    rintro L ac wx hL hd ⟨p2_18, p2_19, rfl, hG, f18, f19, s20, s21, g18_19⟩
    obtain ⟨e0, -⟩ := hd
    refine wp_fa3 rfl (sel_of (e0 rfl)) ?_
    exact ⟨p2_18, p2_19, rfl, hG, f18, f19, s20, s21, g18_19⟩
   refine allOps_cons 7 ?_ ?_
   ·refine kF rfl ?_
    rintro L ac wx hL hd ⟨p2_18, p2_19, rfl, hG, f18, f19, s20, s21, g18_19⟩
    obtain ⟨e0, -⟩ := hd
    have HL := (hq_c1).grl hG n0
    refine wp_pU (v0 := .int .u64 b.wl) (v1 := .int .u64 b.wh) rfl (sel_of (e0 rfl)) (HL) rfl rfl ?_
    exact ⟨p2_18, p2_19, rfl, hG, f18, f19, s20, s21, g18_19⟩
   refine allOps_cons 8 ?_ ?_
   ·refine kF rfl ?_
    rintro L ac wx hL hd ⟨p2_18, p2_19, rfl, hG, f18, f19, s20, s21, g18_19⟩
    obtain ⟨e0, e1, -⟩ := hd
    refine wp_call2 rfl (sel_of (e0 rfl)) (sel_of (e1 rfl)) (by go_simp) ?_
    refine ((fun w => meet_u a.wl a.wh b.wl b.wh w) _).mono ?_
    rintro e w1 ⟨rfl, hg⟩
    refine ⟨_, rfl, ?_⟩
    exact ⟨p2_18, p2_19, rfl, hG.then hg, fun h => ⟨(f18 h).1, (f18 h).2.gr hg⟩, fun h => ⟨(f19 h).1, (f19 h).2.gr hg⟩, s20, s21, g18_19⟩
   refine allOps_cons 9 ?_ ?_
   ·refine kF rfl ?_
    rintro L ac wx hL hd ⟨p2_18, p2_19, rfl, hG, f18, f19, s20, s21, g18_19⟩
    refine wM (v := .pointer (some ⟨p, 0, none⟩)) rfl rfl ?_
    exact ⟨p2_18, p2_19, rfl, hG, f18, f19, s20, s21, g18_19⟩
   refine allOps_cons 10 ?_ ?_
   ·refine kF rfl ?_
    rintro L ac wx hL hd ⟨p2_18, p2_19, rfl, hG, f18, f19, s20, s21, g18_19⟩
    obtain ⟨e0, -⟩ := hd
    refine wp_nil (r := ⟨p, 0, none⟩) rfl (sel_of (e0 rfl)) ?_
    exact ⟨p2_18, p2_19, rfl, hG, f18, f19, s20, s21, g18_19⟩
   refine allOps_cons 11 ?_ ?_
   ·refine kF rfl ?_
    rintro L ac wx hL hd ⟨p2_18, p2_19, rfl, hG, f18, f19, s20, s21, g18_19⟩
    obtain ⟨e0, -⟩ := hd
    refine wp_fa4 rfl (sel_of (e0 rfl)) ?_
    exact ⟨p2_18, p2_19, rfl, hG, f18, f19, s20, s21, g18_19⟩
   refine allOps_cons 12 ?_ ?_
   ·refine kF rfl ?_
    rintro L ac wx hL hd ⟨p2_18, p2_19, rfl, hG, f18, f19, s20, s21, g18_19⟩
    obtain ⟨e0, -⟩ := hd
    have HL := (hp_c1).grl hG n0
    refine wp_pS (v0 := .int .i64 a.vl) (v1 := .int .i64 a.vh) rfl (sel_of (e0 rfl)) (HL) rfl rfl ?_
    exact ⟨p2_18, p2_19, rfl, hG, f18, f19, s20, s21, g18_19⟩
   refine allOps_cons 13 ?_ ?_
   ·refine kF rfl ?_
    rintro L ac wx hL hd ⟨p2_18, p2_19, rfl, hG, f18, f19, s20, s21, g18_19⟩
    refine wM (v := .pointer (some ⟨q, 0, none⟩)) rfl rfl ?_
    exact ⟨p2_18, p2_19, rfl, hG, f18, f19, s20, s21, g18_19⟩
   refine allOps_cons 14 ?_ ?_
   ·refine kF rfl ?_
    rintro L ac wx hL hd ⟨p2_18, p2_19, rfl, hG, f18, f19, s20, s21, g18_19⟩
    obtain ⟨e0, -⟩ := hd
    refine wp_nil (r := ⟨q, 0, none⟩) rfl (sel_of (e0 rfl)) ?_
    exact ⟨p2_18, p2_19, rfl, hG, f18, f19, s20, s21, g18_19⟩
   refine allOps_cons 15 ?_ ?_
   ·refine kF rfl ?_
    rintro L ac wx hL hd ⟨p2_18, p2_19, rfl, hG, f18, f19, s20, s21, g18_19⟩
    obtain ⟨e0, -⟩ := hd
    refine wp_fa4 rfl (sel_of (e0 rfl)) ?_
    exact ⟨p2_18, p2_19, rfl, hG, f18, f19, s20, s21, g18_19⟩
   refine allOps_cons 16 ?_ ?_
   ·refine kF rfl ?_
    rintro L ac wx hL hd ⟨p2_18, p2_19, rfl, hG, f18, f19, s20, s21, g18_19⟩
    obtain ⟨e0, -⟩ := hd
    have HL := (hq_c1).grl hG n0
    refine wp_pS (v0 := .int .i64 b.vl) (v1 := .int .i64 b.vh) rfl (sel_of (e0 rfl)) (HL) rfl rfl ?_
    exact ⟨p2_18, p2_19, rfl, hG, f18, f19, s20, s21, g18_19⟩
   refine allOps_cons 17 ?_ ?_
   ·refine kF rfl ?_
    rintro L ac wx hL hd ⟨p2_18, p2_19, rfl, hG, f18, f19, s20, s21, g18_19⟩
    obtain ⟨e0, e1, e2, -⟩ := hd
    refine wp_call2 rfl (sel_of (e0 rfl)) (sel_of (e1 rfl)) (by go_simp) ?_
    refine ((fun w => meet_s a.vl a.vh b.vl b.vh w) _).mono ?_
    rintro e w1 ⟨rfl, hg⟩
    refine ⟨_, rfl, ?_⟩
    exact ⟨p2_18, p2_19, rfl, hG.then hg, fun h => ⟨(f18 h).1, (f18 h).2.gr hg⟩, fun h => ⟨(f19 h).1, (f19 h).2.gr hg⟩, s20, s21, g18_19⟩
   refine allOps_cons 18 ?_ ?_
   ·refine kF rfl ?_
    rintro L ac wx hL hd ⟨p2_18, p2_19, rfl, hG, f18, f19, s20, s21, g18_19⟩
    have ls : L 20 = false := by
     cases h : L 20 with
     | false => rfl
     | true => have := s20 h; rw [hL] at this; cases this
    refine wp_al_S rfl ?_
    intro w1 hn hg
    exact ⟨wx.heap.size, p2_19, rfl, hG.then hg, fun _ => ⟨hG.size, by rw [show upd L 18 20 = false from ls]; exact hn⟩, fun h => ⟨(f19 h).1, (f19 h).2.gr hg⟩, fun _ => rfl, s21, fun _ h => by have z := (f19 h).2.lt; omega⟩
   refine allOps_cons 19 ?_ ?_
   ·refine kF rfl ?_
    rintro L ac wx hL hd ⟨p2_18, p2_19, rfl, hG, f18, f19, s20, s21, g18_19⟩
    have ls : L 21 = false := by
     cases h : L 21 with
     | false => rfl
     | true => have := s21 h; rw [hL] at this; cases this
    refine wp_al_R rfl ?_
    intro w1 hn hg
    exact ⟨p2_18, wx.heap.size, rfl, hG.then hg, fun h => ⟨(f18 h).1, (f18 h).2.gr hg⟩, fun _ => ⟨hG.size, by rw [show upd L 19 21 = false from ls]; exact hn⟩, s20, fun _ => rfl, fun h _ => by have z := (f18 h).2.lt; omega⟩
   refine allOps_cons 20 ?_ ?_
   ·refine kF rfl ?_
    rintro L ac wx hL hd ⟨p2_18, p2_19, rfl, hG, f18, f19, s20, s21, g18_19⟩
    obtain ⟨e0, e1, e2, e3, e4, e5, e6, e7, e8, e9, e10, e11, e12, e13, e14, e15, e16, e17, e18, e19, e20, e21, e22, -⟩ := hd
    have lp : L 18 = true := e0 rfl
    obtain ⟨k18, z18⟩ := f18 lp
    have HL := z18; rw [hL] at HL
    refine wp_storeU rfl (sel_of (e0 rfl)) (sel_of (e1 rfl)) HL ?_
    intro w1 hn hgx
    exact ⟨p2_18, p2_19, rfl, hG.thenx hgx (.inr k18), fun _ => ⟨k18, hn⟩, fun h => ⟨(f19 h).1, (f19 h).2.grx hgx (Ne.symm (g18_19 lp h))⟩, fun _ => lp, s21, g18_19⟩
   refine allOps_cons 21 ?_ ?_
   ·refine kF rfl ?_
    rintro L ac wx hL hd ⟨p2_18, p2_19, rfl, hG, f18, f19, s20, s21, g18_19⟩
    obtain ⟨e0, e1, e2, e3, e4, e5, e6, e7, e8, e9, e10, e11, e12, e13, e14, e15, e16, e17, e18, e19, e20, e21, e22, e23, -⟩ := hd
    have lp : L 19 = true := e0 rfl
    obtain ⟨k19, z19⟩ := f19 lp
    have HL := z19; rw [hL] at HL
    refine wp_storeS rfl (sel_of (e0 rfl)) (sel_of (e1 rfl)) HL ?_
    intro w1 hn hgx
    exact ⟨p2_18, p2_19, rfl, hG.thenx hgx (.inr k19), fun h => ⟨(f18 h).1, (f18 h).2.grx hgx (g18_19 h lp)⟩, fun _ => ⟨k19, hn⟩, s20, fun _ => lp, g18_19⟩
   exact allOps_nil 22
  case fin =>
   rintro L ac wf2 hall ⟨p2_18, p2_19, rfl, hG2, f18, f19, s20, s21, g18_19⟩
   have l0 : L 0 = true := hall 0 (by decide)
   have l1 : L 1 = true := hall 1 (by decide)
   have l2 : L 2 = true := hall 2 (by decide)
   have l3 : L 3 = true := hall 3 (by decide)
   have l4 : L 4 = true := hall 4 (by decide)
   have l5 : L 5 = true := hall 5 (by decide)
   have l6 : L 6 = true := hall 6 (by decide)
   have l7 : L 7 = true := hall 7 (by decide)
   have l8 : L 8 = true := hall 8 (by decide)
   have l9 : L 9 = true := hall 9 (by decide)
   have l10 : L 10 = true := hall 10 (by decide)
   have l11 : L 11 = true := hall 11 (by decide)
   have l12 : L 12 = true := hall 12 (by decide)
   have l13 : L 13 = true := hall 13 (by decide)
   have l14 : L 14 = true := hall 14 (by decide)
   have l15 : L 15 = true := hall 15 (by decide)
   have l16 : L 16 = true := hall 16 (by decide)
   have l17 : L 17 = true := hall 17 (by decide)
   have l18 : L 18 = true := hall 18 (by decide)
   have l19 : L 19 = true := hall 19 (by decide)
   have l20 : L 20 = true := hall 20 (by decide)
   have l21 : L 21 = true := hall 21 (by decide)
   obtain ⟨kp2_18, zp2_18⟩ := f18 l18
   rw [l20] at zp2_18
   change AtA wf2 p2_18 (#[.int .u64 (meetP a b).wl, .int .u64 (meetP a b).wh]) 26 at zp2_18
   obtain ⟨kp2_19, zp2_19⟩ := f19 l19
   rw [l21] at zp2_19
   change AtA wf2 p2_19 (#[.int .i64 (meetP a b).vl, .int .i64 (meetP a b).vh]) 28 at zp2_19
   have np2_18_p2_19 := g18_19 l18 l19
   simp only [l0, l1, l2, l3, l4, l5, l6, l7, l8, l9, l10, l11, l12, l13, l14, l15, l16, l17, l18, l19, sel_t]
   have np_p2_18 : p ≠ p2_18 := Nat.ne_of_lt (Nat.lt_of_lt_of_le (hp_c1).lt kp2_18)
   have np_p2_19 : p ≠ p2_19 := Nat.ne_of_lt (Nat.lt_of_lt_of_le (hp_c1).lt kp2_19)
   have nq_p2_18 : q ≠ p2_18 := Nat.ne_of_lt (Nat.lt_of_lt_of_le (hq_c1).lt kp2_18)
   have nq_p2_19 : q ≠ p2_19 := Nat.ne_of_lt (Nat.lt_of_lt_of_le (hq_c1).lt kp2_19)
   have np1_10_p2_18 : p1_10 ≠ p2_18 := Nat.ne_of_lt (Nat.lt_of_lt_of_le (zp1_10).lt kp2_18)
   have np1_10_p2_19 : p1_10 ≠ p2_19 := Nat.ne_of_lt (Nat.lt_of_lt_of_le (zp1_10).lt kp2_19)
   have np1_11_p2_18 : p1_11 ≠ p2_18 := Nat.ne_of_lt (Nat.lt_of_lt_of_le (zp1_11).lt kp2_18)
   have np1_11_p2_19 : p1_11 ≠ p2_19 := Nat.ne_of_lt (Nat.lt_of_lt_of_le (zp1_11).lt kp2_19)
   have frp2_18 := Nat.le_trans (hF_c1).size kp2_18
   have frp2_19 := Nat.le_trans (hF_c1).size kp2_19
   have hp_c2 := (hp_c1).grl hG2 n0
   have hq_c2 := (hq_c1).grl hG2 n0
   have hp1_10_c2 := (zp1_10).grl hG2 n0
   have hp1_11_c2 := (zp1_11).grl hG2 n0
   have hF_c2 := (hF_c1).app hG2 (r0 )
   clear l0 l1 l2 l3 l4 l5 l6 l7 l8 l9 l10 l11 l12 l13 l14 l15 l16 l17 l18 l19 l20 l21 hall f18 f19 s20 s21 g18_19
   go_upto_region 3 with fail
   refine wp_region_inv (by kernel_rfl) (fun L ac wx =>  ac = ⟨(.pointer (some ⟨p, 0, none⟩) :: .pointer (some ⟨q, 0, none⟩) :: undef :: undef :: .bool false :: .pointer (some ⟨p1_10, 0, none⟩) :: .pointer (some ⟨p1_11, 0, none⟩) :: .pointer (some ⟨p2_18, 0, none⟩) :: .pointer (some ⟨p2_19, 0, none⟩) :: .pointer (some ⟨p, 0, none⟩) :: .pointer (some ⟨p, 0, none⟩) :: .pointer (some ⟨p, 0, none⟩) :: .agg #[.int .u64 (iv a.tv), .int .u64 (iv a.tm)] :: .agg #[.int .u64 (iv (lowT a.tv)), .int .u64 (iv (lowT a.tm ||| hiM))] :: .pointer (some ⟨q, 0, none⟩) :: .pointer (some ⟨q, 0, none⟩) :: .pointer (some ⟨q, 0, none⟩) :: .agg #[.int .u64 (iv b.tv), .int .u64 (iv b.tm)] :: .agg #[.int .u64 (iv (lowT b.tv)), .int .u64 (iv (lowT b.tm ||| hiM))] :: .pointer (some ⟨p, 0, none⟩) :: .pointer (some ⟨p, 0, none⟩) :: .pointer (some ⟨p, 6, none⟩) :: .agg #[.int .u64 a.wl, .int .u64 a.wh] :: .pointer (some ⟨q, 0, none⟩) :: .pointer (some ⟨q, 0, none⟩) :: .pointer (some ⟨q, 6, none⟩) :: .agg #[.int .u64 b.wl, .int .u64 b.wh] :: .agg #[.int .u64 (meetP a b).wl, .int .u64 (meetP a b).wh] :: .pointer (some ⟨p, 0, none⟩) :: .pointer (some ⟨p, 0, none⟩) :: .pointer (some ⟨p, 8, none⟩) :: .agg #[.int .i64 a.vl, .int .i64 a.vh] :: .pointer (some ⟨q, 0, none⟩) :: .pointer (some ⟨q, 0, none⟩) :: .pointer (some ⟨q, 8, none⟩) :: .agg #[.int .i64 b.vl, .int .i64 b.vh] :: .agg #[.int .i64 (meetP a b).vl, .int .i64 (meetP a b).vh] :: sel (L 0) (.pointer (some ⟨p, 0, none⟩)) (undef) :: sel (L 1) (.pointer (some ⟨q, 0, none⟩)) (undef) :: sel (L 2) (.agg #[.int .u64 (meetP a b).wl, .int .u64 (meetP a b).wh]) (undef) :: sel (L 3) (.agg #[.int .u64 (meetP a b).wl, .int .u64 (meetP a b).wh]) (undef) :: sel (L 4) (.pointer (some ⟨p, 0, none⟩)) (undef) :: sel (L 5) (.pointer (some ⟨p, 6, none⟩)) (undef) :: sel (L 7) (.pointer (some ⟨q, 0, none⟩)) (undef) :: sel (L 8) (.pointer (some ⟨q, 6, none⟩)) (undef) :: undef :: undef :: undef :: undef :: undef :: undef :: undef :: undef :: undef :: undef :: undef :: undef :: undef :: undef :: undef :: undef :: undef :: undef :: undef :: undef :: [] : List Value).toArray, []⟩ ∧ GrL [p, q] wf2 wx ∧ AtA wx p (sel (L 6) (bv { a with wl := (meetP a b).wl, wh := (meetP a b).wh }) (bv a)) 30 ∧ AtA wx q (sel (L 9) (bv { b with wl := (meetP a b).wl, wh := (meetP a b).wh }) (bv b)) 30) (by kernel_rfl) ?h0 ?step ?fin
   case h0 => exact ⟨rfl, GrL.of (Gr.drew (Gr.refl _)), (hp_c2).drew, (hq_c2).drew⟩
   case step =>
    refine allOps_cons 0 ?_ ?_
    ·refine kF rfl ?_
     rintro L ac wx hL hd ⟨rfl, hG, Ap, Aq⟩
     refine wM (v := .pointer (some ⟨p, 0, none⟩)) rfl rfl ?_
     exact ⟨rfl, hG, Ap, Aq⟩
    refine allOps_cons 1 ?_ ?_
    ·refine kF rfl ?_
     rintro L ac wx hL hd ⟨rfl, hG, Ap, Aq⟩
     obtain ⟨e0, -⟩ := hd
     refine wM (v := .pointer (some ⟨q, 0, none⟩)) rfl rfl ?_
     exact ⟨rfl, hG, Ap, Aq⟩
    refine allOps_cons 2 ?_ ?_
    ·refine kF rfl ?_
     rintro L ac wx hL hd ⟨rfl, hG, Ap, Aq⟩
     have HL := (zp2_18).grl hG (n2 (Ne.symm np_p2_18) (Ne.symm nq_p2_18))
     refine wp_pU (v0 := .int .u64 (meetP a b).wl) (v1 := .int .u64 (meetP a b).wh) rfl rfl (HL) rfl rfl ?_
     exact ⟨rfl, hG, Ap, Aq⟩
    refine allOps_cons 3 ?_ ?_
    ·refine kF rfl ?_
     rintro L ac wx hL hd ⟨rfl, hG, Ap, Aq⟩
     obtain ⟨e0, -⟩ := hd
     have HL := (zp2_18).grl hG (n2 (Ne.symm np_p2_18) (Ne.symm nq_p2_18))
     refine wp_pU (v0 := .int .u64 (meetP a b).wl) (v1 := .int .u64 (meetP a b).wh) rfl rfl (HL) rfl rfl ?_
     exact ⟨rfl, hG, Ap, Aq⟩
    refine allOps_cons 4 ?_ ?_
    ·refine kF rfl ?_
     rintro L ac wx hL hd ⟨rfl, hG, Ap, Aq⟩
     obtain ⟨e0, e1, e2, e3, e4, -⟩ := hd
     refine wp_nil (r := ⟨p, 0, none⟩) rfl (sel_of (e0 rfl)) ?_
     exact ⟨rfl, hG, Ap, Aq⟩
    refine allOps_cons 5 ?_ ?_
    ·refine kF rfl ?_
     rintro L ac wx hL hd ⟨rfl, hG, Ap, Aq⟩
     obtain ⟨e0, e1, e2, e3, e4, -⟩ := hd
     refine wp_fa3 rfl (sel_of (e0 rfl)) ?_
     exact ⟨rfl, hG, Ap, Aq⟩
    refine allOps_cons 6 ?_ ?_
    ·refine kF rfl ?_
     rintro L ac wx hL hd ⟨rfl, hG, Ap, Aq⟩
     obtain ⟨e0, e1, e2, e3, e4, e5, -⟩ := hd
     have HL := Ap; rw [hL] at HL
     refine wp_stW rfl (sel_of (e0 rfl)) (sel_of (e1 rfl)) HL ?_
     intro w1 hn hgx
     exact ⟨rfl, hG.thenx hgx (.inl m21), hn, Aq.grx hgx (Ne.symm hpq)⟩
    refine allOps_cons 7 ?_ ?_
    ·refine kF rfl ?_
     rintro L ac wx hL hd ⟨rfl, hG, Ap, Aq⟩
     obtain ⟨e0, e1, e2, e3, e4, e5, e6, e7, -⟩ := hd
     refine wp_nil (r := ⟨q, 0, none⟩) rfl (sel_of (e0 rfl)) ?_
     exact ⟨rfl, hG, Ap, Aq⟩
    refine allOps_cons 8 ?_ ?_
    ·refine kF rfl ?_
     rintro L ac wx hL hd ⟨rfl, hG, Ap, Aq⟩
     obtain ⟨e0, e1, e2, e3, e4, e5, e6, e7, -⟩ := hd
     refine wp_fa3 rfl (sel_of (e0 rfl)) ?_
     exact ⟨rfl, hG, Ap, Aq⟩
    refine allOps_cons 9 ?_ ?_
    ·refine kF rfl ?_
     rintro L ac wx hL hd ⟨rfl, hG, Ap, Aq⟩
     obtain ⟨e0, e1, e2, e3, e4, e5, e6, e7, e8, e9, -⟩ := hd
     have HL := Aq; rw [hL] at HL
     refine wp_stW rfl (sel_of (e0 rfl)) (sel_of (e1 rfl)) HL ?_
     intro w1 hn hgx
     exact ⟨rfl, hG.thenx hgx (.inl m22), Ap.grx hgx hpq, hn⟩
    exact allOps_nil 10
   case fin =>
    rintro L ac wf3 hall ⟨rfl, hG3, B3p, B3q⟩
    have l0 : L 0 = true := hall 0 (by decide)
    have l1 : L 1 = true := hall 1 (by decide)
    have l2 : L 2 = true := hall 2 (by decide)
    have l3 : L 3 = true := hall 3 (by decide)
    have l4 : L 4 = true := hall 4 (by decide)
    have l5 : L 5 = true := hall 5 (by decide)
    have l6 : L 6 = true := hall 6 (by decide)
    have l7 : L 7 = true := hall 7 (by decide)
    have l8 : L 8 = true := hall 8 (by decide)
    have l9 : L 9 = true := hall 9 (by decide)
    rw [l6] at B3p
    change AtA wf3 p (bv { a with wl := (meetP a b).wl, wh := (meetP a b).wh }) 30 at B3p
    rw [l9] at B3q
    change AtA wf3 q (bv { b with wl := (meetP a b).wl, wh := (meetP a b).wh }) 30 at B3q
    simp only [l0, l1, l2, l3, l4, l5, l7, l8, sel_t]
    have hp1_10_c3 := (hp1_10_c2).grl hG3 (n2 (Ne.symm np_p1_10) (Ne.symm nq_p1_10))
    have hp1_11_c3 := (hp1_11_c2).grl hG3 (n2 (Ne.symm np_p1_11) (Ne.symm nq_p1_11))
    have hp2_18_c3 := (zp2_18).grl hG3 (n2 (Ne.symm np_p2_18) (Ne.symm nq_p2_18))
    have hp2_19_c3 := (zp2_19).grl hG3 (n2 (Ne.symm np_p2_19) (Ne.symm nq_p2_19))
    have hF_c3 := (hF_c2).app hG3 (r2 (.inl m21) (.inl m22))
    clear l0 l1 l2 l3 l4 l5 l6 l7 l8 l9 hall
    go_upto_region 4 with fail
    refine wp_region_inv (by kernel_rfl) (fun L ac wx =>  ac = ⟨(.pointer (some ⟨p, 0, none⟩) :: .pointer (some ⟨q, 0, none⟩) :: undef :: undef :: .bool false :: .pointer (some ⟨p1_10, 0, none⟩) :: .pointer (some ⟨p1_11, 0, none⟩) :: .pointer (some ⟨p2_18, 0, none⟩) :: .pointer (some ⟨p2_19, 0, none⟩) :: .pointer (some ⟨p, 0, none⟩) :: .pointer (some ⟨p, 0, none⟩) :: .pointer (some ⟨p, 0, none⟩) :: .agg #[.int .u64 (iv a.tv), .int .u64 (iv a.tm)] :: .agg #[.int .u64 (iv (lowT a.tv)), .int .u64 (iv (lowT a.tm ||| hiM))] :: .pointer (some ⟨q, 0, none⟩) :: .pointer (some ⟨q, 0, none⟩) :: .pointer (some ⟨q, 0, none⟩) :: .agg #[.int .u64 (iv b.tv), .int .u64 (iv b.tm)] :: .agg #[.int .u64 (iv (lowT b.tv)), .int .u64 (iv (lowT b.tm ||| hiM))] :: .pointer (some ⟨p, 0, none⟩) :: .pointer (some ⟨p, 0, none⟩) :: .pointer (some ⟨p, 6, none⟩) :: .agg #[.int .u64 a.wl, .int .u64 a.wh] :: .pointer (some ⟨q, 0, none⟩) :: .pointer (some ⟨q, 0, none⟩) :: .pointer (some ⟨q, 6, none⟩) :: .agg #[.int .u64 b.wl, .int .u64 b.wh] :: .agg #[.int .u64 (meetP a b).wl, .int .u64 (meetP a b).wh] :: .pointer (some ⟨p, 0, none⟩) :: .pointer (some ⟨p, 0, none⟩) :: .pointer (some ⟨p, 8, none⟩) :: .agg #[.int .i64 a.vl, .int .i64 a.vh] :: .pointer (some ⟨q, 0, none⟩) :: .pointer (some ⟨q, 0, none⟩) :: .pointer (some ⟨q, 8, none⟩) :: .agg #[.int .i64 b.vl, .int .i64 b.vh] :: .agg #[.int .i64 (meetP a b).vl, .int .i64 (meetP a b).vh] :: .pointer (some ⟨p, 0, none⟩) :: .pointer (some ⟨q, 0, none⟩) :: .agg #[.int .u64 (meetP a b).wl, .int .u64 (meetP a b).wh] :: .agg #[.int .u64 (meetP a b).wl, .int .u64 (meetP a b).wh] :: .pointer (some ⟨p, 0, none⟩) :: .pointer (some ⟨p, 6, none⟩) :: .pointer (some ⟨q, 0, none⟩) :: .pointer (some ⟨q, 6, none⟩) :: sel (L 0) (.pointer (some ⟨p, 0, none⟩)) (undef) :: sel (L 1) (.pointer (some ⟨q, 0, none⟩)) (undef) :: sel (L 2) (.agg #[.int .i64 (meetP a b).vl, .int .i64 (meetP a b).vh]) (undef) :: sel (L 3) (.agg #[.int .i64 (meetP a b).vl, .int .i64 (meetP a b).vh]) (undef) :: sel (L 4) (.pointer (some ⟨p, 0, none⟩)) (undef) :: sel (L 5) (.pointer (some ⟨p, 8, none⟩)) (undef) :: sel (L 7) (.pointer (some ⟨q, 0, none⟩)) (undef) :: sel (L 8) (.pointer (some ⟨q, 8, none⟩)) (undef) :: undef :: undef :: undef :: undef :: undef :: undef :: undef :: undef :: undef :: undef :: undef :: undef :: [] : List Value).toArray, []⟩ ∧ GrL [p, q] wf3 wx ∧ AtA wx p (sel (L 6) (bv { { a with wl := (meetP a b).wl, wh := (meetP a b).wh } with vl := (meetP a b).vl, vh := (meetP a b).vh }) (bv { a with wl := (meetP a b).wl, wh := (meetP a b).wh })) 30 ∧ AtA wx q (sel (L 9) (bv { { b with wl := (meetP a b).wl, wh := (meetP a b).wh } with vl := (meetP a b).vl, vh := (meetP a b).vh }) (bv { b with wl := (meetP a b).wl, wh := (meetP a b).wh })) 30) (by kernel_rfl) ?h0 ?step ?fin
    case h0 => exact ⟨rfl, GrL.of (Gr.drew (Gr.refl _)), (B3p).drew, (B3q).drew⟩
    case step =>
     refine allOps_cons 0 ?_ ?_
     ·refine kF rfl ?_
      rintro L ac wx hL hd ⟨rfl, hG, Ap, Aq⟩
      refine wM (v := .pointer (some ⟨p, 0, none⟩)) rfl rfl ?_
      exact ⟨rfl, hG, Ap, Aq⟩
     refine allOps_cons 1 ?_ ?_
     ·refine kF rfl ?_
      rintro L ac wx hL hd ⟨rfl, hG, Ap, Aq⟩
      obtain ⟨e0, -⟩ := hd
      refine wM (v := .pointer (some ⟨q, 0, none⟩)) rfl rfl ?_
      exact ⟨rfl, hG, Ap, Aq⟩
     refine allOps_cons 2 ?_ ?_
     ·refine kF rfl ?_
      rintro L ac wx hL hd ⟨rfl, hG, Ap, Aq⟩
      have HL := (hp2_19_c3).grl hG (n2 (Ne.symm np_p2_19) (Ne.symm nq_p2_19))
      refine wp_pS (v0 := .int .i64 (meetP a b).vl) (v1 := .int .i64 (meetP a b).vh) rfl rfl (HL) rfl rfl ?_
      exact ⟨rfl, hG, Ap, Aq⟩
     refine allOps_cons 3 ?_ ?_
     ·refine kF rfl ?_
      rintro L ac wx hL hd ⟨rfl, hG, Ap, Aq⟩
      obtain ⟨e0, -⟩ := hd
      have HL := (hp2_19_c3).grl hG (n2 (Ne.symm np_p2_19) (Ne.symm nq_p2_19))
      refine wp_pS (v0 := .int .i64 (meetP a b).vl) (v1 := .int .i64 (meetP a b).vh) rfl rfl (HL) rfl rfl ?_
      exact ⟨rfl, hG, Ap, Aq⟩
     refine allOps_cons 4 ?_ ?_
     ·refine kF rfl ?_
      rintro L ac wx hL hd ⟨rfl, hG, Ap, Aq⟩
      obtain ⟨e0, e1, e2, e3, e4, -⟩ := hd
      refine wp_nil (r := ⟨p, 0, none⟩) rfl (sel_of (e0 rfl)) ?_
      exact ⟨rfl, hG, Ap, Aq⟩
     refine allOps_cons 5 ?_ ?_
     ·refine kF rfl ?_
      rintro L ac wx hL hd ⟨rfl, hG, Ap, Aq⟩
      obtain ⟨e0, e1, e2, e3, e4, -⟩ := hd
      refine wp_fa4 rfl (sel_of (e0 rfl)) ?_
      exact ⟨rfl, hG, Ap, Aq⟩
     refine allOps_cons 6 ?_ ?_
     ·refine kF rfl ?_
      rintro L ac wx hL hd ⟨rfl, hG, Ap, Aq⟩
      obtain ⟨e0, e1, e2, e3, e4, e5, -⟩ := hd
      have HL := Ap; rw [hL] at HL
      refine wp_stV rfl (sel_of (e0 rfl)) (sel_of (e1 rfl)) HL ?_
      intro w1 hn hgx
      exact ⟨rfl, hG.thenx hgx (.inl m21), hn, Aq.grx hgx (Ne.symm hpq)⟩
     refine allOps_cons 7 ?_ ?_
     ·refine kF rfl ?_
      rintro L ac wx hL hd ⟨rfl, hG, Ap, Aq⟩
      obtain ⟨e0, e1, e2, e3, e4, e5, e6, e7, -⟩ := hd
      refine wp_nil (r := ⟨q, 0, none⟩) rfl (sel_of (e0 rfl)) ?_
      exact ⟨rfl, hG, Ap, Aq⟩
     refine allOps_cons 8 ?_ ?_
     ·refine kF rfl ?_
      rintro L ac wx hL hd ⟨rfl, hG, Ap, Aq⟩
      obtain ⟨e0, e1, e2, e3, e4, e5, e6, e7, -⟩ := hd
      refine wp_fa4 rfl (sel_of (e0 rfl)) ?_
      exact ⟨rfl, hG, Ap, Aq⟩
     refine allOps_cons 9 ?_ ?_
     ·refine kF rfl ?_
      rintro L ac wx hL hd ⟨rfl, hG, Ap, Aq⟩
      obtain ⟨e0, e1, e2, e3, e4, e5, e6, e7, e8, e9, -⟩ := hd
      have HL := Aq; rw [hL] at HL
      refine wp_stV rfl (sel_of (e0 rfl)) (sel_of (e1 rfl)) HL ?_
      intro w1 hn hgx
      exact ⟨rfl, hG.thenx hgx (.inl m22), Ap.grx hgx hpq, hn⟩
     exact allOps_nil 10
    case fin =>
     rintro L ac wf4 hall ⟨rfl, hG4, B4p, B4q⟩
     have l0 : L 0 = true := hall 0 (by decide)
     have l1 : L 1 = true := hall 1 (by decide)
     have l2 : L 2 = true := hall 2 (by decide)
     have l3 : L 3 = true := hall 3 (by decide)
     have l4 : L 4 = true := hall 4 (by decide)
     have l5 : L 5 = true := hall 5 (by decide)
     have l6 : L 6 = true := hall 6 (by decide)
     have l7 : L 7 = true := hall 7 (by decide)
     have l8 : L 8 = true := hall 8 (by decide)
     have l9 : L 9 = true := hall 9 (by decide)
     rw [l6] at B4p
     change AtA wf4 p (bv { { a with wl := (meetP a b).wl, wh := (meetP a b).wh } with vl := (meetP a b).vl, vh := (meetP a b).vh }) 30 at B4p
     rw [l9] at B4q
     change AtA wf4 q (bv { { b with wl := (meetP a b).wl, wh := (meetP a b).wh } with vl := (meetP a b).vl, vh := (meetP a b).vh }) 30 at B4q
     simp only [l0, l1, l2, l3, l4, l5, l7, l8, sel_t]
     have hp1_10_c4 := (hp1_10_c3).grl hG4 (n2 (Ne.symm np_p1_10) (Ne.symm nq_p1_10))
     have hp1_11_c4 := (hp1_11_c3).grl hG4 (n2 (Ne.symm np_p1_11) (Ne.symm nq_p1_11))
     have hp2_18_c4 := (hp2_18_c3).grl hG4 (n2 (Ne.symm np_p2_18) (Ne.symm nq_p2_18))
     have hp2_19_c4 := (hp2_19_c3).grl hG4 (n2 (Ne.symm np_p2_19) (Ne.symm nq_p2_19))
     have hF_c4 := (hF_c3).app hG4 (r2 (.inl m21) (.inl m22))
     clear l0 l1 l2 l3 l4 l5 l6 l7 l8 l9 hall
     obtain ⟨X1, hX1⟩ : ∃ X, { { a with wl := (meetP a b).wl, wh := (meetP a b).wh } with vl := (meetP a b).vl, vh := (meetP a b).vh } = X := ⟨_, rfl⟩
     have hhp : AtA wf4 p (bv X1) 30 := hX1 ▸ B4p
     have h1 : Tn.meetX X1.tv X1.tm (lowT b.tv) (lowT b.tm ||| hiM) = true := by rw [← hX1]; exact kh1
     obtain ⟨Y1, hY1⟩ : ∃ Y, ({ X1 with tv := Tn.mtV X1.tv X1.tm (lowT b.tv) (lowT b.tm ||| hiM), tm := Tn.mtM X1.tv X1.tm (lowT b.tv) (lowT b.tm ||| hiM) } : Bd) = Y := ⟨_, rfl⟩
     have kX1 : ∀ w (h : AtA w p (bv X1) 30), Calls Tryz.prog 240 #[.pointer (some ⟨p, 0, none⟩), .agg #[.int .u64 (iv (lowT b.tv)), .int .u64 (iv (lowT b.tm ||| hiM))]] w fun e w' => e = .returned (.bool true) ∧ AtA w' p (bv Y1) 30 ∧ GrX p w w' := fun w h => hY1 ▸ k_know X1 (lowT b.tv) (lowT b.tm ||| hiM) true h1 p w h
     obtain ⟨X2, hX2⟩ : ∃ X, { { b with wl := (meetP a b).wl, wh := (meetP a b).wh } with vl := (meetP a b).vl, vh := (meetP a b).vh } = X := ⟨_, rfl⟩
     have hhq : AtA wf4 q (bv X2) 30 := hX2 ▸ B4q
     have h2 : Tn.meetX X2.tv X2.tm (lowT a.tv) (lowT a.tm ||| hiM) = true := by rw [← hX2]; exact kh2
     obtain ⟨Y2, hY2⟩ : ∃ Y, ({ X2 with tv := Tn.mtV X2.tv X2.tm (lowT a.tv) (lowT a.tm ||| hiM), tm := Tn.mtM X2.tv X2.tm (lowT a.tv) (lowT a.tm ||| hiM) } : Bd) = Y := ⟨_, rfl⟩
     have kX2 : ∀ w (h : AtA w q (bv X2) 30), Calls Tryz.prog 240 #[.pointer (some ⟨q, 0, none⟩), .agg #[.int .u64 (iv (lowT a.tv)), .int .u64 (iv (lowT a.tm ||| hiM))]] w fun e w' => e = .returned (.bool true) ∧ AtA w' q (bv Y2) 30 ∧ GrX q w w' := fun w h => hY2 ▸ k_know X2 (lowT a.tv) (lowT a.tm ||| hiM) true h2 q w h
     go_upto_region 5 with fail
     refine wp_region_inv (by kernel_rfl) (fun L ac wx =>  ac = ⟨(.pointer (some ⟨p, 0, none⟩) :: .pointer (some ⟨q, 0, none⟩) :: undef :: undef :: sel (L 12) (.bool true) (.bool false) :: .pointer (some ⟨p1_10, 0, none⟩) :: .pointer (some ⟨p1_11, 0, none⟩) :: .pointer (some ⟨p2_18, 0, none⟩) :: .pointer (some ⟨p2_19, 0, none⟩) :: .pointer (some ⟨p, 0, none⟩) :: .pointer (some ⟨p, 0, none⟩) :: .pointer (some ⟨p, 0, none⟩) :: .agg #[.int .u64 (iv a.tv), .int .u64 (iv a.tm)] :: .agg #[.int .u64 (iv (lowT a.tv)), .int .u64 (iv (lowT a.tm ||| hiM))] :: .pointer (some ⟨q, 0, none⟩) :: .pointer (some ⟨q, 0, none⟩) :: .pointer (some ⟨q, 0, none⟩) :: .agg #[.int .u64 (iv b.tv), .int .u64 (iv b.tm)] :: .agg #[.int .u64 (iv (lowT b.tv)), .int .u64 (iv (lowT b.tm ||| hiM))] :: .pointer (some ⟨p, 0, none⟩) :: .pointer (some ⟨p, 0, none⟩) :: .pointer (some ⟨p, 6, none⟩) :: .agg #[.int .u64 a.wl, .int .u64 a.wh] :: .pointer (some ⟨q, 0, none⟩) :: .pointer (some ⟨q, 0, none⟩) :: .pointer (some ⟨q, 6, none⟩) :: .agg #[.int .u64 b.wl, .int .u64 b.wh] :: .agg #[.int .u64 (meetP a b).wl, .int .u64 (meetP a b).wh] :: .pointer (some ⟨p, 0, none⟩) :: .pointer (some ⟨p, 0, none⟩) :: .pointer (some ⟨p, 8, none⟩) :: .agg #[.int .i64 a.vl, .int .i64 a.vh] :: .pointer (some ⟨q, 0, none⟩) :: .pointer (some ⟨q, 0, none⟩) :: .pointer (some ⟨q, 8, none⟩) :: .agg #[.int .i64 b.vl, .int .i64 b.vh] :: .agg #[.int .i64 (meetP a b).vl, .int .i64 (meetP a b).vh] :: .pointer (some ⟨p, 0, none⟩) :: .pointer (some ⟨q, 0, none⟩) :: .agg #[.int .u64 (meetP a b).wl, .int .u64 (meetP a b).wh] :: .agg #[.int .u64 (meetP a b).wl, .int .u64 (meetP a b).wh] :: .pointer (some ⟨p, 0, none⟩) :: .pointer (some ⟨p, 6, none⟩) :: .pointer (some ⟨q, 0, none⟩) :: .pointer (some ⟨q, 6, none⟩) :: .pointer (some ⟨p, 0, none⟩) :: .pointer (some ⟨q, 0, none⟩) :: .agg #[.int .i64 (meetP a b).vl, .int .i64 (meetP a b).vh] :: .agg #[.int .i64 (meetP a b).vl, .int .i64 (meetP a b).vh] :: .pointer (some ⟨p, 0, none⟩) :: .pointer (some ⟨p, 8, none⟩) :: .pointer (some ⟨q, 0, none⟩) :: .pointer (some ⟨q, 8, none⟩) :: sel (L 0) (.pointer (some ⟨p, 0, none⟩)) (undef) :: sel (L 1) (.pointer (some ⟨p, 0, none⟩)) (undef) :: sel (L 2) (.pointer (some ⟨p, 0, none⟩)) (undef) :: sel (L 3) (.agg #[.int .u64 (iv (lowT b.tv)), .int .u64 (iv (lowT b.tm ||| hiM))]) (undef) :: sel (L 4) (.bool true) (undef) :: sel (L 5) (.bool true) (undef) :: sel (L 6) (.pointer (some ⟨q, 0, none⟩)) (undef) :: sel (L 7) (.pointer (some ⟨q, 0, none⟩)) (undef) :: sel (L 8) (.pointer (some ⟨q, 0, none⟩)) (undef) :: sel (L 9) (.agg #[.int .u64 (iv (lowT a.tv)), .int .u64 (iv (lowT a.tm ||| hiM))]) (undef) :: sel (L 10) (.bool true) (undef) :: sel (L 11) (.bool true) (undef) :: [] : List Value).toArray, []⟩ ∧ GrL [p, q] wf4 wx ∧ AtA wx p (sel (L 4) (bv Y1) (bv X1)) 30 ∧ AtA wx q (sel (L 10) (bv Y2) (bv X2)) 30) (by kernel_rfl) ?h0 ?step ?fin
     case h0 => exact ⟨rfl, GrL.of (Gr.drew (Gr.refl _)), (hhp).drew, (hhq).drew⟩
     case step =>
      refine allOps_cons 0 ?_ ?_
      ·refine kF rfl ?_
       rintro L ac wx hL hd ⟨rfl, hG, Ap, Aq⟩
       refine wM (v := .pointer (some ⟨p, 0, none⟩)) rfl rfl ?_
       exact ⟨rfl, hG, Ap, Aq⟩
      refine allOps_cons 1 ?_ ?_
      ·refine kF rfl ?_
       rintro L ac wx hL hd ⟨rfl, hG, Ap, Aq⟩
       obtain ⟨e0, -⟩ := hd
       refine wp_nil (r := ⟨p, 0, none⟩) rfl (sel_of (e0 rfl)) ?_
       exact ⟨rfl, hG, Ap, Aq⟩
      refine allOps_cons 2 ?_ ?_
      ·refine kF rfl ?_
       rintro L ac wx hL hd ⟨rfl, hG, Ap, Aq⟩
       obtain ⟨e0, -⟩ := hd
       refine wp_fa0 rfl (sel_of (e0 rfl)) ?_
       exact ⟨rfl, hG, Ap, Aq⟩
      refine allOps_cons 3 ?_ ?_
      ·refine kF rfl ?_
       rintro L ac wx hL hd ⟨rfl, hG, Ap, Aq⟩
       have HL := (hp1_11_c4).grl hG (n2 (Ne.symm np_p1_11) (Ne.symm nq_p1_11))
       refine wp_pT (v0 := .int .u64 (iv (lowT b.tv))) (v1 := .int .u64 (iv (lowT b.tm ||| hiM))) rfl rfl (HL) rfl rfl ?_
       exact ⟨rfl, hG, Ap, Aq⟩
      refine allOps_cons 4 ?_ ?_
      ·refine kF rfl ?_
       rintro L ac wx hL hd ⟨rfl, hG, Ap, Aq⟩
       obtain ⟨e0, e1, -⟩ := hd
       have HL := Ap; rw [hL] at HL
       refine wp_call2 rfl (sel_of (e0 rfl)) (sel_of (e1 rfl)) (by go_simp) ?_
       refine (kX1 _ HL).mono ?_
       rintro e w1 ⟨rfl, hn, hgx⟩
       refine ⟨_, rfl, ?_⟩
       exact ⟨rfl, hG.thenx hgx (.inl m21), hn, Aq.grx hgx (Ne.symm hpq)⟩
      refine allOps_cons 5 ?_ ?_
      ·refine kF rfl ?_
       rintro L ac wx hL hd ⟨rfl, hG, Ap, Aq⟩
       obtain ⟨e0, e1, -⟩ := hd
       refine wM (v := .bool true) rfl (sel_of (e0 rfl)) ?_
       exact ⟨rfl, hG, Ap, Aq⟩
      refine allOps_cons 6 ?_ ?_
      ·refine keeps_yes ?_
       rintro L ac wx hL hd ⟨rfl, hG, Ap, Aq⟩
       obtain ⟨e0, -⟩ := hd
       refine ⟨wanted_of (k := 5) (b := true) (c := true) rfl rfl rfl rfl (sel_of (e0 rfl)) rfl, ?_⟩
       refine wM (v := .pointer (some ⟨q, 0, none⟩)) rfl rfl ?_
       exact ⟨rfl, hG, Ap, Aq⟩
      refine allOps_cons 7 ?_ ?_
      ·refine keeps_yes ?_
       rintro L ac wx hL hd ⟨rfl, hG, Ap, Aq⟩
       obtain ⟨e0, e1, -⟩ := hd
       refine ⟨wanted_of (k := 5) (b := true) (c := true) rfl rfl rfl rfl (sel_of (e1 rfl)) rfl, ?_⟩
       refine wp_nil (r := ⟨q, 0, none⟩) rfl (sel_of (e0 rfl)) ?_
       exact ⟨rfl, hG, Ap, Aq⟩
      refine allOps_cons 8 ?_ ?_
      ·refine keeps_yes ?_
       rintro L ac wx hL hd ⟨rfl, hG, Ap, Aq⟩
       obtain ⟨e0, e1, -⟩ := hd
       refine ⟨wanted_of (k := 5) (b := true) (c := true) rfl rfl rfl rfl (sel_of (e1 rfl)) rfl, ?_⟩
       refine wp_fa0 rfl (sel_of (e0 rfl)) ?_
       exact ⟨rfl, hG, Ap, Aq⟩
      refine allOps_cons 9 ?_ ?_
      ·refine keeps_yes ?_
       rintro L ac wx hL hd ⟨rfl, hG, Ap, Aq⟩
       obtain ⟨e0, -⟩ := hd
       refine ⟨wanted_of (k := 5) (b := true) (c := true) rfl rfl rfl rfl (sel_of (e0 rfl)) rfl, ?_⟩
       have HL := (hp1_10_c4).grl hG (n2 (Ne.symm np_p1_10) (Ne.symm nq_p1_10))
       refine wp_pT (v0 := .int .u64 (iv (lowT a.tv))) (v1 := .int .u64 (iv (lowT a.tm ||| hiM))) rfl rfl (HL) rfl rfl ?_
       exact ⟨rfl, hG, Ap, Aq⟩
      refine allOps_cons 10 ?_ ?_
      ·refine keeps_yes ?_
       rintro L ac wx hL hd ⟨rfl, hG, Ap, Aq⟩
       obtain ⟨e0, e1, e2, e3, -⟩ := hd
       refine ⟨wanted_of (k := 5) (b := true) (c := true) rfl rfl rfl rfl (sel_of (e2 rfl)) rfl, ?_⟩
       have HL := Aq; rw [hL] at HL
       refine wp_call2 rfl (sel_of (e0 rfl)) (sel_of (e1 rfl)) (by go_simp) ?_
       refine (kX2 _ HL).mono ?_
       rintro e w1 ⟨rfl, hn, hgx⟩
       refine ⟨_, rfl, ?_⟩
       exact ⟨rfl, hG.thenx hgx (.inl m22), Ap.grx hgx hpq, hn⟩
      refine allOps_cons 11 ?_ ?_
      ·refine kF rfl ?_
       rintro L ac wx hL hd ⟨rfl, hG, Ap, Aq⟩
       obtain ⟨e0, e1, -⟩ := hd
       refine wp_pickT (v := .bool true) rfl (sel_of (e0 rfl)) (sel_of (e1 rfl)) ?_
       exact ⟨rfl, hG, Ap, Aq⟩
      refine allOps_cons 12 ?_ ?_
      ·refine kF rfl ?_
       rintro L ac wx hL hd ⟨rfl, hG, Ap, Aq⟩
       obtain ⟨e0, e1, e2, e3, e4, e5, e6, e7, e8, e9, e10, e11, e12, e13, -⟩ := hd
       refine wA (v := .bool true) rfl (sel_of (e0 rfl)) ?_
       exact ⟨rfl, hG, Ap, Aq⟩
      exact allOps_nil 13
     case fin =>
      rintro L ac wf5 hall ⟨rfl, hG5, B5p, B5q⟩
      have l0 : L 0 = true := hall 0 (by decide)
      have l1 : L 1 = true := hall 1 (by decide)
      have l2 : L 2 = true := hall 2 (by decide)
      have l3 : L 3 = true := hall 3 (by decide)
      have l4 : L 4 = true := hall 4 (by decide)
      have l5 : L 5 = true := hall 5 (by decide)
      have l6 : L 6 = true := hall 6 (by decide)
      have l7 : L 7 = true := hall 7 (by decide)
      have l8 : L 8 = true := hall 8 (by decide)
      have l9 : L 9 = true := hall 9 (by decide)
      have l10 : L 10 = true := hall 10 (by decide)
      have l11 : L 11 = true := hall 11 (by decide)
      have l12 : L 12 = true := hall 12 (by decide)
      rw [l4] at B5p
      change AtA wf5 p (bv Y1) 30 at B5p
      rw [l10] at B5q
      change AtA wf5 q (bv Y2) 30 at B5q
      simp only [l0, l1, l2, l3, l4, l5, l6, l7, l8, l9, l10, l11, l12, sel_t]
      have hp1_10_c5 := (hp1_10_c4).grl hG5 (n2 (Ne.symm np_p1_10) (Ne.symm nq_p1_10))
      have hp1_11_c5 := (hp1_11_c4).grl hG5 (n2 (Ne.symm np_p1_11) (Ne.symm nq_p1_11))
      have hp2_18_c5 := (hp2_18_c4).grl hG5 (n2 (Ne.symm np_p2_18) (Ne.symm nq_p2_18))
      have hp2_19_c5 := (hp2_19_c4).grl hG5 (n2 (Ne.symm np_p2_19) (Ne.symm nq_p2_19))
      have hF_c5 := (hF_c4).app hG5 (r2 (.inl m21) (.inl m22))
      clear l0 l1 l2 l3 l4 l5 l6 l7 l8 l9 l10 l11 l12 hall
      have e1 : Y1 = { a with tv := Tn.mtV a.tv a.tm (lowT b.tv) (lowT b.tm ||| hiM), tm := Tn.mtM a.tv a.tm (lowT b.tv) (lowT b.tm ||| hiM), wl := (meetP a b).wl, wh := (meetP a b).wh, vl := (meetP a b).vl, vh := (meetP a b).vh } := by rw [← hY1, ← hX1]
      have e2 : Y2 = { b with tv := Tn.mtV b.tv b.tm (lowT a.tv) (lowT a.tm ||| hiM), tm := Tn.mtM b.tv b.tm (lowT a.tv) (lowT a.tm ||| hiM), wl := (meetP a b).wl, wh := (meetP a b).wh, vl := (meetP a b).vl, vh := (meetP a b).vh } := by rw [← hY2, ← hX2]
      have finp := e1 ▸ B5p
      have finq := e2 ▸ B5q
      go_wp2
      go_ret
      exact ⟨rfl, finp, finq, hF_c5⟩
theorem tell_halves (a b : Bd) (p q : Nat) (w : World) (hpq : p ≠ q) (HA : AtA w p (bv a) 30) (HB : AtA w q (bv b) 30) : Calls Tryz.prog 262 #[.pointer (some ⟨p, 0, none⟩), .pointer (some ⟨q, 0, none⟩)] w (tellPost p q (eqM false a b) w) := by
 unfold eqM
 rw [if_neg (by decide)]
 cases h1 : Tn.meetX a.tv a.tm (lowT b.tv) (lowT b.tm ||| hiM) with
 | false => exact halves_n a b p q w hpq HA HB h1
 | true =>
  cases h2 : Tn.meetX b.tv b.tm (lowT a.tv) (lowT a.tm ||| hiM) with
  | false => exact halves_tn a b p q w hpq HA HB h1 h2
  | true => exact halves_tt a b p q w hpq HA HB h1 h2
end Go.Proofs.YtcbcijibgpaipaaGreat
