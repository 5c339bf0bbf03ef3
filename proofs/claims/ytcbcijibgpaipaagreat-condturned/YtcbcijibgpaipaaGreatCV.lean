/- Towards the statements of package cond (layer 6): what its closures tell two bounds: bits in common. -/
import Derived.Test.YtcbcijibgpaipaaGreatCA
import Derived.Test.YtcbcijibgpaipaaGreatCP
import Derived.Test.YtcbcijibgpaipaaGreatMN
import Derived.Deep.DeepCutAuto
namespace Go.Proofs.YtcbcijibgpaipaaGreat
open Go.ChangeShapes Go.WideShapes Go.ChangeAt Go.RowKit
open Tn (iv)
set_option linter.unusedVariables false
set_option linter.unusedSimpArgs false
set_option maxRecDepth 20000

theorem sh2 (z : BitVec 64) : iv z / (2 : Int) = iv (z >>> 1) := by have := Tn.iv_shr z 1; simpa using this
theorem sh4 (z : BitVec 64) : iv z / (4 : Int) = iv (z >>> 2) := by have := Tn.iv_shr z 2; simpa using this
theorem sh16 (z : BitVec 64) : iv z / (16 : Int) = iv (z >>> 4) := by have := Tn.iv_shr z 4; simpa using this
theorem sh256 (z : BitVec 64) : iv z / (256 : Int) = iv (z >>> 8) := by have := Tn.iv_shr z 8; simpa using this
theorem sh65536 (z : BitVec 64) : iv z / (65536 : Int) = iv (z >>> 16) := by have := Tn.iv_shr z 16; simpa using this
theorem sh32 (z : BitVec 64) : iv z / (4294967296 : Int) = iv (z >>> 32) := by have := Tn.iv_shr z 32; simpa using this
theorem an1 (z : BitVec 64) : bits .and .u64 (iv z) 6148914691236517205 = iv (z &&& 6148914691236517205#64) := Tn.iv_and z 6148914691236517205#64
theorem an2 (z : BitVec 64) : bits .and .u64 (iv z) 3689348814741910323 = iv (z &&& 3689348814741910323#64) := Tn.iv_and z 3689348814741910323#64
theorem an3 (z : BitVec 64) : bits .and .u64 (iv z) 1085102592571150095 = iv (z &&& 1085102592571150095#64) := Tn.iv_and z 1085102592571150095#64
theorem w128 (z : Int) : wrap64 z % 128 = z % 128 := by
 unfold wrap64
 omega
theorem k_count (x : BitVec 64) (w : World) : Calls Tryz.prog 276 #[.int .u64 (iv x)] w fun e w' => e = .returned (.int .i64 (cnt x)) ∧ Gr w w' := by
 go_enter Tryz.func276, Tryz.ntmps276
 go_wp2
 go_ret
 refine ⟨?_, Gr.refl w⟩
 refine congrArg Ending.returned ?_
 simp only [Array.getD_eq_getD_getElem?, List.getElem?_toArray, List.getElem?_cons_zero, List.getElem?_cons_succ, Option.getD_some]
 simp only [sh2, sh4, sh16, sh256, sh65536, sh32, an1, an2, an3, Tn.iv_add, i64_and127, w128]
 rfl
def oneM (v m : BitVec 64) : Bool := m == 0#64 && cnt v == 1
theorem k_oneBit (v m : BitVec 64) (w : World) : Calls Tryz.prog 268 #[.agg #[.int .u64 (iv v), .int .u64 (iv m)]] w fun e w' => e = .returned (.bool (oneM v m)) ∧ Gr w w' := by
 unfold oneM
 have hm : (iv m == 0) = (m == 0#64) := Tn.iv_eq m 0#64
 cases h1 : (m == 0#64) with
 | false =>
  rw [h1] at hm
  go_enter Tryz.func268, Tryz.ntmps268
  go_wp2
  go_ret
  exact ⟨rfl, Gr.alloc (Gr.refl w) _ _⟩
 | true =>
  rw [h1] at hm
  cases h2 : (cnt v == 1) with
  | false =>
   go_enter Tryz.func268, Tryz.ntmps268
   go_wp2_with (go_at_call 276; refine (k_count _ _).mono ?_; rintro e w' ⟨rfl, hg⟩)
   go_ret
   exact ⟨rfl, (Gr.alloc (Gr.refl w) _ _).trans hg⟩
  | true =>
   go_enter Tryz.func268, Tryz.ntmps268
   go_wp2_with (go_at_call 276; refine (k_count _ _).mono ?_; rintro e w' ⟨rfl, hg⟩)
   go_ret
   exact ⟨rfl, (Gr.alloc (Gr.refl w) _ _).trans hg⟩
set_option maxHeartbeats 16000000 in
theorem set_z (wd : Bool) (a b : Bd) (p q : Nat) (w : World) (hpq : p ≠ q) (HA : AtA w p (bv a) 30) (HB : AtA w q (bv b) 30) (PW : Nat) (npPW : p ≠ PW) (nqPW : q ≠ PW) (HW : AtA w PW #[.bool wd] 4) (hz : (iv ((ofT wd a.tv) &&& (ofT wd b.tv)) == iv 0#64 && iv (Tn.andM (ofT wd a.tv) (ofT wd a.tm) (ofT wd b.tv) (ofT wd b.tm)) == iv 0#64) = true) : Calls Tryz.prog 267 #[.pointer (some ⟨p, 0, none⟩), .pointer (some ⟨q, 0, none⟩), .pointer (some ⟨PW, 0, none⟩)] w fun e w' => e = .returned (.bool false) ∧ GrL [p, q] w w' := by
 go_enter Tryz.func267, Tryz.ntmps267
 go_upto_region 0 with fail
 refine rG ?_
 refine sF rfl ?_
 refine wA (v := .bool false) rfl rfl ?_
 simp only [Act.put, zs, z0, z1]
 refine s_end ?_
 go_upto_region 1 with fail
 refine wp_region_inv (by kernel_rfl) (fun L ac wx => ∃ (p1_12 : Nat) (p1_13 : Nat), ac = ⟨(.pointer (some ⟨p, 0, none⟩) :: .pointer (some ⟨q, 0, none⟩) :: .pointer (some ⟨PW, 0, none⟩) :: undef :: undef :: .bool false :: sel (L 12) (.pointer (some ⟨p1_12, 0, none⟩)) (undef) :: sel (L 13) (.pointer (some ⟨p1_13, 0, none⟩)) (undef) :: sel (L 0) (.pointer (some ⟨p, 0, none⟩)) (undef) :: sel (L 1) (.pointer (some ⟨p, 0, none⟩)) (undef) :: sel (L 2) (.pointer (some ⟨p, 0, none⟩)) (undef) :: sel (L 3) (.agg #[.int .u64 (iv a.tv), .int .u64 (iv a.tm)]) (undef) :: sel (L 4) (.bool wd) (undef) :: sel (L 5) (.agg #[.int .u64 (iv (ofT wd a.tv)), .int .u64 (iv (ofT wd a.tm))]) (undef) :: sel (L 6) (.pointer (some ⟨q, 0, none⟩)) (undef) :: sel (L 7) (.pointer (some ⟨q, 0, none⟩)) (undef) :: sel (L 8) (.pointer (some ⟨q, 0, none⟩)) (undef) :: sel (L 9) (.agg #[.int .u64 (iv b.tv), .int .u64 (iv b.tm)]) (undef) :: sel (L 10) (.bool wd) (undef) :: sel (L 11) (.agg #[.int .u64 (iv (ofT wd b.tv)), .int .u64 (iv (ofT wd b.tm))]) (undef) :: undef :: undef :: undef :: undef :: undef :: undef :: undef :: undef :: undef :: undef :: undef :: undef :: undef :: undef :: undef :: undef :: undef :: undef :: undef :: undef :: undef :: undef :: undef :: undef :: undef :: undef :: [] : List Value).toArray, []⟩ ∧ GrL [] w wx ∧ (L 12 = true → w.heap.size ≤ p1_12 ∧ AtA wx p1_12 (sel (L 14) (#[.int .u64 (iv (ofT wd a.tv)), .int .u64 (iv (ofT wd a.tm))]) (#[.int .u64 0, .int .u64 0])) 24) ∧ (L 13 = true → w.heap.size ≤ p1_13 ∧ AtA wx p1_13 (sel (L 15) (#[.int .u64 (iv (ofT wd b.tv)), .int .u64 (iv (ofT wd b.tm))]) (#[.int .u64 0, .int .u64 0])) 24) ∧ (L 14 = true → L 12 = true) ∧ (L 15 = true → L 13 = true) ∧ (L 12 = true → L 13 = true → p1_12 ≠ p1_13)) (by kernel_rfl) ?h0 ?step ?fin
 case h0 => exact ⟨0, 0, rfl, GrL.of (Gr.drew (Gr.refl _)), (fun h => by cases h), (fun h => by cases h), (fun h => by cases h), (fun h => by cases h), (fun h => by cases h)⟩
 case step =>
  refine allOps_cons 0 ?_ ?_
  ·refine kF rfl ?_
   rintro L ac wx hL hd ⟨p1_12, p1_13, rfl, hG, f12, f13, s14, s15, g12_13⟩
   refine wM (v := .pointer (some ⟨p, 0, none⟩)) rfl rfl ?_
   exact ⟨p1_12, p1_13, rfl, hG, f12, f13, s14, s15, g12_13⟩
  refine allOps_cons 1 ?_ ?_
  ·refine kF rfl ?_
   rintro L ac wx hL hd ⟨p1_12, p1_13, rfl, hG, f12, f13, s14, s15, g12_13⟩
   obtain ⟨e0, -⟩ := hd
   refine wp_nil (r := ⟨p, 0, none⟩) rfl (sel_of (e0 rfl)) ?_
   exact ⟨p1_12, p1_13, rfl, hG, f12, f13, s14, s15, g12_13⟩
  refine allOps_cons 2 ?_ ?_
  ·refine kF rfl ?_
   rintro L ac wx hL hd ⟨p1_12, p1_13, rfl, hG, f12, f13, s14, s15, g12_13⟩
   obtain ⟨e0, -⟩ := hd
   refine wp_fa0 rfl (sel_of (e0 rfl)) ?_
   exact ⟨p1_12, p1_13, rfl, hG, f12, f13, s14, s15, g12_13⟩
  refine allOps_cons 3 ?_ ?_
  ·refine kF rfl ?_
   rintro L ac wx hL hd ⟨p1_12, p1_13, rfl, hG, f12, f13, s14, s15, g12_13⟩
   obtain ⟨e0, -⟩ := hd
   have HL := (HA).grl hG n0
   refine wp_pT (v0 := .int .u64 (iv a.tv)) (v1 := .int .u64 (iv a.tm)) rfl (sel_of (e0 rfl)) (HL) rfl rfl ?_
   exact ⟨p1_12, p1_13, rfl, hG, f12, f13, s14, s15, g12_13⟩
  refine allOps_cons 4 ?_ ?_
  ·refine kF rfl ?_
   rintro L ac wx hL hd ⟨p1_12, p1_13, rfl, hG, f12, f13, s14, s15, g12_13⟩
   have HL := (HW).grl hG n0
   refine wp_ld_bool (v := .bool wd) rfl rfl (HL) rfl ?_
   exact ⟨p1_12, p1_13, rfl, hG, f12, f13, s14, s15, g12_13⟩
  refine allOps_cons 5 ?_ ?_
  ·refine kF rfl ?_
   rintro L ac wx hL hd ⟨p1_12, p1_13, rfl, hG, f12, f13, s14, s15, g12_13⟩
   obtain ⟨e0, e1, -⟩ := hd
   refine wp_call2 rfl (sel_of (e0 rfl)) (sel_of (e1 rfl)) (by go_simp) ?_
   refine ((fun w => k_bitsOf wd a.tv a.tm w) _).mono ?_
   rintro e w1 ⟨rfl, hg⟩
   refine ⟨_, rfl, ?_⟩
   exact ⟨p1_12, p1_13, rfl, hG.then hg, fun h => ⟨(f12 h).1, (f12 h).2.gr hg⟩, fun h => ⟨(f13 h).1, (f13 h).2.gr hg⟩, s14, s15, g12_13⟩
  refine allOps_cons 6 ?_ ?_
  ·refine kF rfl ?_
   rintro L ac wx hL hd ⟨p1_12, p1_13, rfl, hG, f12, f13, s14, s15, g12_13⟩
   refine wM (v := .pointer (some ⟨q, 0, none⟩)) rfl rfl ?_
   exact ⟨p1_12, p1_13, rfl, hG, f12, f13, s14, s15, g12_13⟩
  refine allOps_cons 7 ?_ ?_
  ·refine kF rfl ?_
   rintro L ac wx hL hd ⟨p1_12, p1_13, rfl, hG, f12, f13, s14, s15, g12_13⟩
   obtain ⟨e0, -⟩ := hd
   refine wp_nil (r := ⟨q, 0, none⟩) rfl (sel_of (e0 rfl)) ?_
   exact ⟨p1_12, p1_13, rfl, hG, f12, f13, s14, s15, g12_13⟩
  refine allOps_cons 8 ?_ ?_
  ·refine kF rfl ?_
   rintro L ac wx hL hd ⟨p1_12, p1_13, rfl, hG, f12, f13, s14, s15, g12_13⟩
   obtain ⟨e0, -⟩ := hd
   refine wp_fa0 rfl (sel_of (e0 rfl)) ?_
   exact ⟨p1_12, p1_13, rfl, hG, f12, f13, s14, s15, g12_13⟩
  refine allOps_cons 9 ?_ ?_
  ·refine kF rfl ?_
   rintro L ac wx hL hd ⟨p1_12, p1_13, rfl, hG, f12, f13, s14, s15, g12_13⟩
   obtain ⟨e0, -⟩ := hd
   have HL := (HB).grl hG n0
   refine wp_pT (v0 := .int .u64 (iv b.tv)) (v1 := .int .u64 (iv b.tm)) rfl (sel_of (e0 rfl)) (HL) rfl rfl ?_
   exact ⟨p1_12, p1_13, rfl, hG, f12, f13, s14, s15, g12_13⟩
  refine allOps_cons 10 ?_ ?_
  ·refine kF rfl ?_
   rintro L ac wx hL hd ⟨p1_12, p1_13, rfl, hG, f12, f13, s14, s15, g12_13⟩
   have HL := (HW).grl hG n0
   refine wp_ld_bool (v := .bool wd) rfl rfl (HL) rfl ?_
   exact ⟨p1_12, p1_13, rfl, hG, f12, f13, s14, s15, g12_13⟩
  refine allOps_cons 11 ?_ ?_
  ·refine kF rfl ?_
   rintro L ac wx hL hd ⟨p1_12, p1_13, rfl, hG, f12, f13, s14, s15, g12_13⟩
   obtain ⟨e0, e1, e2, -⟩ := hd
   refine wp_call2 rfl (sel_of (e0 rfl)) (sel_of (e1 rfl)) (by go_simp) ?_
   refine ((fun w => k_bitsOf wd b.tv b.tm w) _).mono ?_
   rintro e w1 ⟨rfl, hg⟩
   refine ⟨_, rfl, ?_⟩
   exact ⟨p1_12, p1_13, rfl, hG.then hg, fun h => ⟨(f12 h).1, (f12 h).2.gr hg⟩, fun h => ⟨(f13 h).1, (f13 h).2.gr hg⟩, s14, s15, g12_13⟩
  refine allOps_cons 12 ?_ ?_
  ·refine kF rfl ?_
   rintro L ac wx hL hd ⟨p1_12, p1_13, rfl, hG, f12, f13, s14, s15, g12_13⟩
   have ls : L 14 = false := by
    cases h : L 14 with
    | false => rfl
    | true => have := s14 h; rw [hL] at this; cases this
   refine wp_allocT rfl ?_
   intro w1 hn hg
   exact ⟨wx.heap.size, p1_13, rfl, hG.then hg, fun _ => ⟨hG.size, by rw [show upd L 12 14 = false from ls]; exact hn⟩, fun h => ⟨(f13 h).1, (f13 h).2.gr hg⟩, fun _ => rfl, s15, fun _ h => by have z := (f13 h).2.lt; omega⟩
  refine allOps_cons 13 ?_ ?_
  ·refine kF rfl ?_
   rintro L ac wx hL hd ⟨p1_12, p1_13, rfl, hG, f12, f13, s14, s15, g12_13⟩
   have ls : L 15 = false := by
    cases h : L 15 with
    | false => rfl
    | true => have := s15 h; rw [hL] at this; cases this
   refine wp_allocT rfl ?_
   intro w1 hn hg
   exact ⟨p1_12, wx.heap.size, rfl, hG.then hg, fun h => ⟨(f12 h).1, (f12 h).2.gr hg⟩, fun _ => ⟨hG.size, by rw [show upd L 13 15 = false from ls]; exact hn⟩, s14, fun _ => rfl, fun h _ => by have z := (f12 h).2.lt; omega⟩
  refine allOps_cons 14 ?_ ?_
  ·refine kF rfl ?_
   rintro L ac wx hL hd ⟨p1_12, p1_13, rfl, hG, f12, f13, s14, s15, g12_13⟩
   obtain ⟨e0, e1, e2, e3, e4, e5, e6, e7, e8, e9, e10, e11, e12, e13, e14, e15, e16, -⟩ := hd
   have lp : L 12 = true := e0 rfl
   obtain ⟨k12, z12⟩ := f12 lp
   have HL := z12; rw [hL] at HL
   refine wp_storeT rfl (sel_of (e0 rfl)) (sel_of (e1 rfl)) HL ?_
   intro w1 hn hgx
   exact ⟨p1_12, p1_13, rfl, hG.thenx hgx (.inr k12), fun _ => ⟨k12, hn⟩, fun h => ⟨(f13 h).1, (f13 h).2.grx hgx (Ne.symm (g12_13 lp h))⟩, fun _ => lp, s15, g12_13⟩
  refine allOps_cons 15 ?_ ?_
  ·refine kF rfl ?_
   rintro L ac wx hL hd ⟨p1_12, p1_13, rfl, hG, f12, f13, s14, s15, g12_13⟩
   obtain ⟨e0, e1, e2, e3, e4, e5, e6, e7, e8, e9, e10, e11, e12, e13, e14, e15, e16, e17, -⟩ := hd
   have lp : L 13 = true := e0 rfl
   obtain ⟨k13, z13⟩ := f13 lp
   have HL := z13; rw [hL] at HL
   refine wp_storeT rfl (sel_of (e0 rfl)) (sel_of (e1 rfl)) HL ?_
   intro w1 hn hgx
   exact ⟨p1_12, p1_13, rfl, hG.thenx hgx (.inr k13), fun h => ⟨(f12 h).1, (f12 h).2.grx hgx (g12_13 h lp)⟩, fun _ => ⟨k13, hn⟩, s14, fun _ => lp, g12_13⟩
  exact allOps_nil 16
 case fin =>
  rintro L ac wf1 hall ⟨p1_12, p1_13, rfl, hG1, f12, f13, s14, s15, g12_13⟩
  have l0 : L 0 = true := hall 0 (by decide)
  have l1 : L 1 = true := hall 1 (by decide)
  have l2 : L 2 = true := hall 2 (by decide)
  have l3 : L 3 = true := hall 3 (by decide)
  have l4 : L 4 = true := hall 4 (by decide)
  have l5 : L 5 = true := hall 5 (by decide)
  have l6 : L 6 = true := hall 6 (by decide)
  have l7 : L 7 = true := hall 7 (by decide)
  have l8 : L 8 = true := hall 8 (by decide)
  have l9 : L 9 = true := hall 9 (by decide)
  have l10 : L 10 = true := hall 10 (by decide)
  have l11 : L 11 = true := hall 11 (by decide)
  have l12 : L 12 = true := hall 12 (by decide)
  have l13 : L 13 = true := hall 13 (by decide)
  have l14 : L 14 = true := hall 14 (by decide)
  have l15 : L 15 = true := hall 15 (by decide)
  obtain ⟨kp1_12, zp1_12⟩ := f12 l12
  rw [l14] at zp1_12
  change AtA wf1 p1_12 (#[.int .u64 (iv (ofT wd a.tv)), .int .u64 (iv (ofT wd a.tm))]) 24 at zp1_12
  obtain ⟨kp1_13, zp1_13⟩ := f13 l13
  rw [l15] at zp1_13
  change AtA wf1 p1_13 (#[.int .u64 (iv (ofT wd b.tv)), .int .u64 (iv (ofT wd b.tm))]) 24 at zp1_13
  have np1_12_p1_13 := g12_13 l12 l13
  simp only [l0, l1, l2, l3, l4, l5, l6, l7, l8, l9, l10, l11, l12, l13, sel_t]
  have np_p1_12 : p ≠ p1_12 := Nat.ne_of_lt (Nat.lt_of_lt_of_le (HA).lt kp1_12)
  have np_p1_13 : p ≠ p1_13 := Nat.ne_of_lt (Nat.lt_of_lt_of_le (HA).lt kp1_13)
  have nq_p1_12 : q ≠ p1_12 := Nat.ne_of_lt (Nat.lt_of_lt_of_le (HB).lt kp1_12)
  have nq_p1_13 : q ≠ p1_13 := Nat.ne_of_lt (Nat.lt_of_lt_of_le (HB).lt kp1_13)
  have nPW_p1_12 : PW ≠ p1_12 := Nat.ne_of_lt (Nat.lt_of_lt_of_le (HW).lt kp1_12)
  have nPW_p1_13 : PW ≠ p1_13 := Nat.ne_of_lt (Nat.lt_of_lt_of_le (HW).lt kp1_13)
  have frp1_12 := Nat.le_trans (GrL.refl [p, q] w).size kp1_12
  have frp1_13 := Nat.le_trans (GrL.refl [p, q] w).size kp1_13
  have hp_c1 := (HA).grl hG1 n0
  have hq_c1 := (HB).grl hG1 n0
  have hPW_c1 := (HW).grl hG1 n0
  have hF_c1 := (GrL.refl [p, q] w).app hG1 (r0 )
  clear l0 l1 l2 l3 l4 l5 l6 l7 l8 l9 l10 l11 l12 l13 l14 l15 hall f12 f13 s14 s15 g12_13
  go_upto_region 2 with fail
  refine rG ?_
  refine sF rfl ?_
  refine wp_pT (v0 := .int .u64 (iv (ofT wd a.tv))) (v1 := .int .u64 (iv (ofT wd a.tm))) rfl rfl (zp1_12) rfl rfl ?_
  simp only [Act.put, zs, z0, z1]
  refine sF rfl ?_
  refine wp_pT (v0 := .int .u64 (iv (ofT wd b.tv))) (v1 := .int .u64 (iv (ofT wd b.tm))) rfl rfl (zp1_13) rfl rfl ?_
  simp only [Act.put, zs, z0, z1]
  refine sF rfl ?_
  refine wp_call2 rfl rfl rfl (by go_simp) ?_
  refine ((fun w => cv (Tn.and_any (ofT wd a.tv) (ofT wd a.tm) (ofT wd b.tv) (ofT wd b.tm) w)) _).mono ?_
  rintro e wk2 ⟨rfl, hk2⟩
  refine ⟨_, rfl, ?_⟩
  have hp_2 := (hp_c1).gr hk2
  have hq_2 := (hq_c1).gr hk2
  have hPW_2 := (hPW_c1).gr hk2
  have hp1_12_2 := (zp1_12).gr hk2
  have hp1_13_2 := (zp1_13).gr hk2
  have hF_2 := (hF_c1).then hk2
  simp only [Act.put, zs, z0, z1]
  refine sF rfl ?_
  refine wp_call1 rfl rfl (by go_simp) ?_
  refine ((fun w => cv (Tn.cst_gr (0#64) w)) _).mono ?_
  rintro e wk3 ⟨rfl, hk3⟩
  refine ⟨_, rfl, ?_⟩
  have hp_3 := (hp_2).gr hk3
  have hq_3 := (hq_2).gr hk3
  have hPW_3 := (hPW_2).gr hk3
  have hp1_12_3 := (hp1_12_2).gr hk3
  have hp1_13_3 := (hp1_13_2).gr hk3
  have hF_3 := (hF_2).then hk3
  simp only [Act.put, zs, z0, z1]
  refine sF rfl ?_
  refine wp_eqT (r := true) rfl rfl rfl hz ?_
  simp only [Act.put, zs, z0, z1]
  refine sF rfl ?_
  refine wA (v := .bool true) rfl rfl ?_
  simp only [Act.put, zs, z0, z1]
  refine s_end ?_
  go_upto_region 3 with fail
  refine rG ?_
  refine sF rfl ?_
  refine wA (v := .bool false) rfl rfl ?_
  simp only [Act.put, zs, z0, z1]
  refine s_end ?_
  go_wp2
  go_ret
  exact ⟨rfl, hF_3⟩
set_option maxHeartbeats 16000000 in
theorem set_1n (wd : Bool) (a b : Bd) (p q : Nat) (w : World) (hpq : p ≠ q) (HA : AtA w p (bv a) 30) (HB : AtA w q (bv b) 30) (PW : Nat) (npPW : p ≠ PW) (nqPW : q ≠ PW) (HW : AtA w PW #[.bool wd] 4) (hz : (iv ((ofT wd a.tv) &&& (ofT wd b.tv)) == iv 0#64 && iv (Tn.andM (ofT wd a.tv) (ofT wd a.tm) (ofT wd b.tv) (ofT wd b.tm)) == iv 0#64) = false) (ho1 : oneM (ofT wd a.tv) (ofT wd a.tm) = true) (hk : Tn.meetX b.tv b.tm (ofT wd a.tv) (~~~(ofT wd a.tv)) = false) : Calls Tryz.prog 267 #[.pointer (some ⟨p, 0, none⟩), .pointer (some ⟨q, 0, none⟩), .pointer (some ⟨PW, 0, none⟩)] w fun e w' => e = .returned (.bool false) ∧ GrL [p, q] w w' := by
 go_enter Tryz.func267, Tryz.ntmps267
 go_upto_region 0 with fail
 refine rG ?_
 refine sF rfl ?_
 refine wA (v := .bool false) rfl rfl ?_
 simp only [Act.put, zs, z0, z1]
 refine s_end ?_
 go_upto_region 1 with fail
 refine wp_region_inv (by kernel_rfl) (fun L ac wx => ∃ (p1_12 : Nat) (p1_13 : Nat), ac = ⟨(.pointer (some ⟨p, 0, none⟩) :: .pointer (some ⟨q, 0, none⟩) :: .pointer (some ⟨PW, 0, none⟩) :: undef :: undef :: .bool false :: sel (L 12) (.pointer (some ⟨p1_12, 0, none⟩)) (undef) :: sel (L 13) (.pointer (some ⟨p1_13, 0, none⟩)) (undef) :: sel (L 0) (.pointer (some ⟨p, 0, none⟩)) (undef) :: sel (L 1) (.pointer (some ⟨p, 0, none⟩)) (undef) :: sel (L 2) (.pointer (some ⟨p, 0, none⟩)) (undef) :: sel (L 3) (.agg #[.int .u64 (iv a.tv), .int .u64 (iv a.tm)]) (undef) :: sel (L 4) (.bool wd) (undef) :: sel (L 5) (.agg #[.int .u64 (iv (ofT wd a.tv)), .int .u64 (iv (ofT wd a.tm))]) (undef) :: sel (L 6) (.pointer (some ⟨q, 0, none⟩)) (undef) :: sel (L 7) (.pointer (some ⟨q, 0, none⟩)) (undef) :: sel (L 8) (.pointer (some ⟨q, 0, none⟩)) (undef) :: sel (L 9) (.agg #[.int .u64 (iv b.tv), .int .u64 (iv b.tm)]) (undef) :: sel (L 10) (.bool wd) (undef) :: sel (L 11) (.agg #[.int .u64 (iv (ofT wd b.tv)), .int .u64 (iv (ofT wd b.tm))]) (undef) :: undef :: undef :: undef :: undef :: undef :: undef :: undef :: undef :: undef :: undef :: undef :: undef :: undef :: undef :: undef :: undef :: undef :: undef :: undef :: undef :: undef :: undef :: undef :: undef :: undef :: undef :: [] : List Value).toArray, []⟩ ∧ GrL [] w wx ∧ (L 12 = true → w.heap.size ≤ p1_12 ∧ AtA wx p1_12 (sel (L 14) (#[.int .u64 (iv (ofT wd a.tv)), .int .u64 (iv (ofT wd a.tm))]) (#[.int .u64 0, .int .u64 0])) 24) ∧ (L 13 = true → w.heap.size ≤ p1_13 ∧ AtA wx p1_13 (sel (L 15) (#[.int .u64 (iv (ofT wd b.tv)), .int .u64 (iv (ofT wd b.tm))]) (#[.int .u64 0, .int .u64 0])) 24) ∧ (L 14 = true → L 12 = true) ∧ (L 15 = true → L 13 = true) ∧ (L 12 = true → L 13 = true → p1_12 ≠ p1_13)) (by kernel_rfl) ?h0 ?step ?fin
 case h0 => exact ⟨0, 0, rfl, GrL.of (Gr.drew (Gr.refl _)), (fun h => by cases h), (fun h => by cases h), (fun h => by cases h), (fun h => by cases h), (fun h => by cases h)⟩
 case step =>
  refine allOps_cons 0 ?_ ?_
  ·refine kF rfl ?_
   rintro L ac wx hL hd ⟨p1_12, p1_13, rfl, hG, f12, f13, s14, s15, g12_13⟩
   refine wM (v := .pointer (some ⟨p, 0, none⟩)) rfl rfl ?_
   exact ⟨p1_12, p1_13, rfl, hG, f12, f13, s14, s15, g12_13⟩
  refine allOps_cons 1 ?_ ?_
  ·refine kF rfl ?_
   rintro L ac wx hL hd ⟨p1_12, p1_13, rfl, hG, f12, f13, s14, s15, g12_13⟩
   obtain ⟨e0, -⟩ := hd
   refine wp_nil (r := ⟨p, 0, none⟩) rfl (sel_of (e0 rfl)) ?_
   exact ⟨p1_12, p1_13, rfl, hG, f12, f13, s14, s15, g12_13⟩
  refine allOps_cons 2 ?_ ?_
  ·refine kF rfl ?_
   rintro L ac wx hL hd ⟨p1_12, p1_13, rfl, hG, f12, f13, s14, s15, g12_13⟩
   obtain ⟨e0, -⟩ := hd
   refine wp_fa0 rfl (sel_of (e0 rfl)) ?_
   exact ⟨p1_12, p1_13, rfl, hG, f12, f13, s14, s15, g12_13⟩
  refine allOps_cons 3 ?_ ?_
  ·refine kF rfl ?_
   rintro L ac wx hL hd ⟨p1_12, p1_13, rfl, hG, f12, f13, s14, s15, g12_13⟩
   obtain ⟨e0, -⟩ := hd
   have HL := (HA).grl hG n0
   refine wp_pT (v0 := .int .u64 (iv a.tv)) (v1 := .int .u64 (iv a.tm)) rfl (sel_of (e0 rfl)) (HL) rfl rfl ?_
   exact ⟨p1_12, p1_13, rfl, hG, f12, f13, s14, s15, g12_13⟩
  refine allOps_cons 4 ?_ ?_
  ·refine kF rfl ?_
   rintro L ac wx hL hd ⟨p1_12, p1_13, rfl, hG, f12, f13, s14, s15, g12_13⟩
   have HL := (HW).grl hG n0
   refine wp_ld_bool (v := .bool wd) rfl rfl (HL) rfl ?_
   exact ⟨p1_12, p1_13, rfl, hG, f12, f13, s14, s15, g12_13⟩
  refine allOps_cons 5 ?_ ?_
  ·refine kF rfl ?_
   rintro L ac wx hL hd ⟨p1_12, p1_13, rfl, hG, f12, f13, s14, s15, g12_13⟩
   obtain ⟨e0, e1, -⟩ := hd
   refine wp_call2 rfl (sel_of (e0 rfl)) (sel_of (e1 rfl)) (by go_simp) ?_
   refine ((fun w => k_bitsOf wd a.tv a.tm w) _).mono ?_
   rintro e w1 ⟨rfl, hg⟩
   refine ⟨_, rfl, ?_⟩
   exact ⟨p1_12, p1_13, rfl, hG.then hg, fun h => ⟨(f12 h).1, (f12 h).2.gr hg⟩, fun h => ⟨(f13 h).1, (f13 h).2.gr hg⟩, s14, s15, g12_13⟩
  refine allOps_cons 6 ?_ ?_
  ·refine kF rfl ?_
   rintro L ac wx hL hd ⟨p1_12, p1_13, rfl, hG, f12, f13, s14, s15, g12_13⟩
   refine wM (v := .pointer (some ⟨q, 0, none⟩)) rfl rfl ?_
   exact ⟨p1_12, p1_13, rfl, hG, f12, f13, s14, s15, g12_13⟩
  refine allOps_cons 7 ?_ ?_
  ·refine kF rfl ?_
   rintro L ac wx hL hd ⟨p1_12, p1_13, rfl, hG, f12, f13, s14, s15, g12_13⟩
   obtain ⟨e0, -⟩ := hd
   refine wp_nil (r := ⟨q, 0, none⟩) rfl (sel_of (e0 rfl)) ?_
   exact ⟨p1_12, p1_13, rfl, hG, f12, f13, s14, s15, g12_13⟩
  refine allOps_cons 8 ?_ ?_
  ·refine kF rfl ?_
   rintro L ac wx hL hd ⟨p1_12, p1_13, rfl, hG, f12, f13, s14, s15, g12_13⟩
   obtain ⟨e0, -⟩ := hd
   refine wp_fa0 rfl (sel_of (e0 rfl)) ?_
   exact ⟨p1_12, p1_13, rfl, hG, f12, f13, s14, s15, g12_13⟩
  refine allOps_cons 9 ?_ ?_
  ·refine kF rfl ?_
   rintro L ac wx hL hd ⟨p1_12, p1_13, rfl, hG, f12, f13, s14, s15, g12_13⟩
   obtain ⟨e0, -⟩ := hd
   have HL := (HB).grl hG n0
   refine wp_pT (v0 := .int .u64 (iv b.tv)) (v1 := .int .u64 (iv b.tm)) rfl (sel_of (e0 rfl)) (HL) rfl rfl ?_
   exact ⟨p1_12, p1_13, rfl, hG, f12, f13, s14, s15, g12_13⟩
  refine allOps_cons 10 ?_ ?_
  ·refine kF rfl ?_
   rintro L ac wx hL hd ⟨p1_12, p1_13, rfl, hG, f12, f13, s14, s15, g12_13⟩
   have HL := (HW).grl hG n0
   refine wp_ld_bool (v := .bool wd) rfl rfl (HL) rfl ?_
   exact ⟨p1_12, p1_13, rfl, hG, f12, f13, s14, s15, g12_13⟩
  refine allOps_cons 11 ?_ ?_
  ·refine kF rfl ?_
   rintro L ac wx hL hd ⟨p1_12, p1_13, rfl, hG, f12, f13, s14, s15, g12_13⟩
   obtain ⟨e0, e1, e2, -⟩ := hd
   refine wp_call2 rfl (sel_of (e0 rfl)) (sel_of (e1 rfl)) (by go_simp) ?_
   refine ((fun w => k_bitsOf wd b.tv b.tm w) _).mono ?_
   rintro e w1 ⟨rfl, hg⟩
   refine ⟨_, rfl, ?_⟩
   exact ⟨p1_12, p1_13, rfl, hG.then hg, fun h => ⟨(f12 h).1, (f12 h).2.gr hg⟩, fun h => ⟨(f13 h).1, (f13 h).2.gr hg⟩, s14, s15, g12_13⟩
  refine allOps_cons 12 ?_ ?_
  ·refine kF rfl ?_
   rintro L ac wx hL hd ⟨p1_12, p1_13, rfl, hG, f12, f13, s14, s15, g12_13⟩
   have ls : L 14 = false := by
    cases h : L 14 with
    | false => rfl
    | true => have := s14 h; rw [hL] at this; cases this
   refine wp_allocT rfl ?_
   intro w1 hn hg
   exact ⟨wx.heap.size, p1_13, rfl, hG.then hg, fun _ => ⟨hG.size, by rw [show upd L 12 14 = false from ls]; exact hn⟩, fun h => ⟨(f13 h).1, (f13 h).2.gr hg⟩, fun _ => rfl, s15, fun _ h => by have z := (f13 h).2.lt; omega⟩
  refine allOps_cons 13 ?_ ?_
  ·refine kF rfl ?_
   rintro L ac wx hL hd ⟨p1_12, p1_13, rfl, hG, f12, f13, s14, s15, g12_13⟩
   have ls : L 15 = false := by
    cases h : L 15 with
    | false => rfl
    | true => have := s15 h; rw [hL] at this; cases this
   refine wp_allocT rfl ?_
   intro w1 hn hg
   exact ⟨p1_12, wx.heap.size, rfl, hG.then hg, fun h => ⟨(f12 h).1, (f12 h).2.gr hg⟩, fun _ => ⟨hG.size, by rw [show upd L 13 15 = false from ls]; exact hn⟩, s14, fun _ => rfl, fun h _ => by have z := (f12 h).2.lt; omega⟩
  refine allOps_cons 14 ?_ ?_
  ·refine kF rfl ?_
   rintro L ac wx hL hd ⟨p1_12, p1_13, rfl, hG, f12, f13, s14, s15, g12_13⟩
   obtain ⟨e0, e1, e2, e3, e4, e5, e6, e7, e8, e9, e10, e11, e12, e13, e14, e15, e16, -⟩ := hd
   have lp : L 12 = true := e0 rfl
   obtain ⟨k12, z12⟩ := f12 lp
   have HL := z12; rw [hL] at HL
   refine wp_storeT rfl (sel_of (e0 rfl)) (sel_of (e1 rfl)) HL ?_
   intro w1 hn hgx
   exact ⟨p1_12, p1_13, rfl, hG.thenx hgx (.inr k12), fun _ => ⟨k12, hn⟩, fun h => ⟨(f13 h).1, (f13 h).2.grx hgx (Ne.symm (g12_13 lp h))⟩, fun _ => lp, s15, g12_13⟩
  refine allOps_cons 15 ?_ ?_
  ·refine kF rfl ?_
   rintro L ac wx hL hd ⟨p1_12, p1_13, rfl, hG, f12, f13, s14, s15, g12_13⟩
   obtain ⟨e0, e1, e2, e3, e4, e5, e6, e7, e8, e9, e10, e11, e12, e13, e14, e15, e16, e17, -⟩ := hd
   have lp : L 13 = true := e0 rfl
   obtain ⟨k13, z13⟩ := f13 lp
   have HL := z13; rw [hL] at HL
   refine wp_storeT rfl (sel_of (e0 rfl)) (sel_of (e1 rfl)) HL ?_
   intro w1 hn hgx
   exact ⟨p1_12, p1_13, rfl, hG.thenx hgx (.inr k13), fun h => ⟨(f12 h).1, (f12 h).2.grx hgx (g12_13 h lp)⟩, fun _ => ⟨k13, hn⟩, s14, fun _ => lp, g12_13⟩
  exact allOps_nil 16
 case fin =>
  rintro L ac wf1 hall ⟨p1_12, p1_13, rfl, hG1, f12, f13, s14, s15, g12_13⟩
  have l0 : L 0 = true := hall 0 (by decide)
  have l1 : L 1 = true := hall 1 (by decide)
  have l2 : L 2 = true := hall 2 (by decide)
  have l3 : L 3 = true := hall 3 (by decide)
  have l4 : L 4 = true := hall 4 (by decide)
  have l5 : L 5 = true := hall 5 (by decide)
  have l6 : L 6 = true := hall 6 (by decide)
  have l7 : L 7 = true := hall 7 (by decide)
  have l8 : L 8 = true := hall 8 (by decide)
  have l9 : L 9 = true := hall 9 (by decide)
  have l10 : L 10 = true := hall 10 (by decide)
  have l11 : L 11 = true := hall 11 (by decide)
  have l12 : L 12 = true := hall 12 (by decide)
  have l13 : L 13 = true := hall 13 (by decide)
  have l14 : L 14 = true := hall 14 (by decide)
  have l15 : L 15 = true := hall 15 (by decide)
  obtain ⟨kp1_12, zp1_12⟩ := f12 l12
  rw [l14] at zp1_12
  change AtA wf1 p1_12 (#[.int .u64 (iv (ofT wd a.tv)), .int .u64 (iv (ofT wd a.tm))]) 24 at zp1_12
  obtain ⟨kp1_13, zp1_13⟩ := f13 l13
  rw [l15] at zp1_13
  change AtA wf1 p1_13 (#[.int .u64 (iv (ofT wd b.tv)), .int .u64 (iv (ofT wd b.tm))]) 24 at zp1_13
  have np1_12_p1_13 := g12_13 l12 l13
  simp only [l0, l1, l2, l3, l4, l5, l6, l7, l8, l9, l10, l11, l12, l13, sel_t]
  have np_p1_12 : p ≠ p1_12 := Nat.ne_of_lt (Nat.lt_of_lt_of_le (HA).lt kp1_12)
  have np_p1_13 : p ≠ p1_13 := Nat.ne_of_lt (Nat.lt_of_lt_of_le (HA).lt kp1_13)
  have nq_p1_12 : q ≠ p1_12 := Nat.ne_of_lt (Nat.lt_of_lt_of_le (HB).lt kp1_12)
  have nq_p1_13 : q ≠ p1_13 := Nat.ne_of_lt (Nat.lt_of_lt_of_le (HB).lt kp1_13)
  have nPW_p1_12 : PW ≠ p1_12 := Nat.ne_of_lt (Nat.lt_of_lt_of_le (HW).lt kp1_12)
  have nPW_p1_13 : PW ≠ p1_13 := Nat.ne_of_lt (Nat.lt_of_lt_of_le (HW).lt kp1_13)
  have frp1_12 := Nat.le_trans (GrL.refl [p, q] w).size kp1_12
  have frp1_13 := Nat.le_trans (GrL.refl [p, q] w).size kp1_13
  have hp_c1 := (HA).grl hG1 n0
  have hq_c1 := (HB).grl hG1 n0
  have hPW_c1 := (HW).grl hG1 n0
  have hF_c1 := (GrL.refl [p, q] w).app hG1 (r0 )
  clear l0 l1 l2 l3 l4 l5 l6 l7 l8 l9 l10 l11 l12 l13 l14 l15 hall f12 f13 s14 s15 g12_13
  go_upto_region 2 with fail
  refine rG ?_
  refine sF rfl ?_
  refine wp_pT (v0 := .int .u64 (iv (ofT wd a.tv))) (v1 := .int .u64 (iv (ofT wd a.tm))) rfl rfl (zp1_12) rfl rfl ?_
  simp only [Act.put, zs, z0, z1]
  refine sF rfl ?_
  refine wp_pT (v0 := .int .u64 (iv (ofT wd b.tv))) (v1 := .int .u64 (iv (ofT wd b.tm))) rfl rfl (zp1_13) rfl rfl ?_
  simp only [Act.put, zs, z0, z1]
  refine sF rfl ?_
  refine wp_call2 rfl rfl rfl (by go_simp) ?_
  refine ((fun w => cv (Tn.and_any (ofT wd a.tv) (ofT wd a.tm) (ofT wd b.tv) (ofT wd b.tm) w)) _).mono ?_
  rintro e wk2 ⟨rfl, hk2⟩
  refine ⟨_, rfl, ?_⟩
  have hp_2 := (hp_c1).gr hk2
  have hq_2 := (hq_c1).gr hk2
  have hPW_2 := (hPW_c1).gr hk2
  have hp1_12_2 := (zp1_12).gr hk2
  have hp1_13_2 := (zp1_13).gr hk2
  have hF_2 := (hF_c1).then hk2
  simp only [Act.put, zs, z0, z1]
  refine sF rfl ?_
  refine wp_call1 rfl rfl (by go_simp) ?_
  refine ((fun w => cv (Tn.cst_gr (0#64) w)) _).mono ?_
  rintro e wk3 ⟨rfl, hk3⟩
  refine ⟨_, rfl, ?_⟩
  have hp_3 := (hp_2).gr hk3
  have hq_3 := (hq_2).gr hk3
  have hPW_3 := (hPW_2).gr hk3
  have hp1_12_3 := (hp1_12_2).gr hk3
  have hp1_13_3 := (hp1_13_2).gr hk3
  have hF_3 := (hF_2).then hk3
  simp only [Act.put, zs, z0, z1]
  refine sF rfl ?_
  refine wp_eqT (r := false) rfl rfl rfl hz ?_
  simp only [Act.put, zs, z0, z1]
  refine sF rfl ?_
  refine wA (v := .bool false) rfl rfl ?_
  simp only [Act.put, zs, z0, z1]
  refine s_end ?_
  go_upto_region 4 with fail
  refine rG ?_
  refine sF rfl ?_
  refine wp_pT (v0 := .int .u64 (iv (ofT wd a.tv))) (v1 := .int .u64 (iv (ofT wd a.tm))) rfl rfl (hp1_12_3) rfl rfl ?_
  simp only [Act.put, zs, z0, z1]
  refine sF rfl ?_
  refine wp_call1 rfl rfl (by go_simp) ?_
  refine ((fun w => k_oneBit (ofT wd a.tv) (ofT wd a.tm) w) _).mono ?_
  rintro e wk4 ⟨he4, hk4⟩
  obtain rfl : e = .returned (.bool true) := he4.trans (by rw [ho1])
  clear he4
  refine ⟨_, rfl, ?_⟩
  have hp_4 := (hp_3).gr hk4
  have hq_4 := (hq_3).gr hk4
  have hPW_4 := (hPW_3).gr hk4
  have hp1_12_4 := (hp1_12_3).gr hk4
  have hp1_13_4 := (hp1_13_3).gr hk4
  have hF_4 := (hF_3).then hk4
  simp only [Act.put, zs, z0, z1]
  refine sF rfl ?_
  refine wA (v := .bool true) rfl rfl ?_
  simp only [Act.put, zs, z0, z1]
  refine s_end ?_
  go_upto_region 5 with fail
  refine wp_region_inv (by kernel_rfl) (fun L ac wx =>  ac = ⟨(.pointer (some ⟨p, 0, none⟩) :: .pointer (some ⟨q, 0, none⟩) :: .pointer (some ⟨PW, 0, none⟩) :: undef :: undef :: sel (L 7) (.bool false) (.bool false) :: .pointer (some ⟨p1_12, 0, none⟩) :: .pointer (some ⟨p1_13, 0, none⟩) :: .pointer (some ⟨p, 0, none⟩) :: .pointer (some ⟨p, 0, none⟩) :: .pointer (some ⟨p, 0, none⟩) :: .agg #[.int .u64 (iv a.tv), .int .u64 (iv a.tm)] :: .bool wd :: .agg #[.int .u64 (iv (ofT wd a.tv)), .int .u64 (iv (ofT wd a.tm))] :: .pointer (some ⟨q, 0, none⟩) :: .pointer (some ⟨q, 0, none⟩) :: .pointer (some ⟨q, 0, none⟩) :: .agg #[.int .u64 (iv b.tv), .int .u64 (iv b.tm)] :: .bool wd :: .agg #[.int .u64 (iv (ofT wd b.tv)), .int .u64 (iv (ofT wd b.tm))] :: .bool false :: .agg #[.int .u64 (iv (ofT wd a.tv)), .int .u64 (iv (ofT wd a.tm))] :: .agg #[.int .u64 (iv (ofT wd b.tv)), .int .u64 (iv (ofT wd b.tm))] :: .agg #[.int .u64 (iv ((ofT wd a.tv) &&& (ofT wd b.tv))), .int .u64 (iv (Tn.andM (ofT wd a.tv) (ofT wd a.tm) (ofT wd b.tv) (ofT wd b.tm)))] :: .agg #[.int .u64 (iv (0#64)), .int .u64 (iv 0#64)] :: .bool false :: .bool true :: .agg #[.int .u64 (iv (ofT wd a.tv)), .int .u64 (iv (ofT wd a.tm))] :: .bool true :: sel (L 0) (.pointer (some ⟨q, 0, none⟩)) (undef) :: sel (L 1) (.pointer (some ⟨q, 0, none⟩)) (undef) :: sel (L 2) (.pointer (some ⟨q, 0, none⟩)) (undef) :: sel (L 3) (.pointer (some ⟨p1_12, 0, none⟩)) (undef) :: sel (L 4) (.int .u64 (iv (ofT wd a.tv))) (undef) :: sel (L 5) (.agg #[.int .u64 (iv (ofT wd a.tv)), .int .u64 (iv (~~~(ofT wd a.tv)))]) (undef) :: sel (L 6) (.bool false) (undef) :: undef :: undef :: undef :: undef :: undef :: undef :: undef :: undef :: undef :: undef :: [] : List Value).toArray, []⟩ ∧ GrL [q] wk4 wx ∧ AtA wx q (sel (L 6) (bv { b with tv := Tn.mtV b.tv b.tm (ofT wd a.tv) (~~~(ofT wd a.tv)), tm := Tn.mtM b.tv b.tm (ofT wd a.tv) (~~~(ofT wd a.tv)) }) (bv b)) 30) (by kernel_rfl) ?h0 ?step ?fin
  case h0 => exact ⟨rfl, GrL.of (Gr.drew (Gr.refl _)), (hq_4).drew⟩
  case step =>
   refine allOps_cons 0 ?_ ?_
   ·refine kF rfl ?_
    rintro L ac wx hL hd ⟨rfl, hG, Aq⟩
    refine wM (v := .pointer (some ⟨q, 0, none⟩)) rfl rfl ?_
    exact ⟨rfl, hG, Aq⟩
   refine allOps_cons 1 ?_ ?_
   ·refine kF rfl ?_
    rintro L ac wx hL hd ⟨rfl, hG, Aq⟩
    obtain ⟨e0, -⟩ := hd
    refine wp_nil (r := ⟨q, 0, none⟩) rfl (sel_of (e0 rfl)) ?_
    exact ⟨rfl, hG, Aq⟩
   refine allOps_cons 2 ?_ ?_
   ·refine kF rfl ?_
    rintro L ac wx hL hd ⟨rfl, hG, Aq⟩
    obtain ⟨e0, -⟩ := hd
    refine wp_fa0 rfl (sel_of (e0 rfl)) ?_
    exact ⟨rfl, hG, Aq⟩
   refine allOps_cons 3 ?_ ?_
   ·refine kF rfl ?_
    rintro L ac wx hL hd ⟨rfl, hG, Aq⟩
    refine wp_fT0 rfl rfl ?_
    exact ⟨rfl, hG, Aq⟩
   refine allOps_cons 4 ?_ ?_
   ·refine kF rfl ?_
    rintro L ac wx hL hd ⟨rfl, hG, Aq⟩
    obtain ⟨e0, -⟩ := hd
    have HL := (hp1_12_4).grl hG (n1 (Ne.symm nq_p1_12))
    refine wp_ld_uint64 (v := .int .u64 (iv (ofT wd a.tv))) rfl (sel_of (e0 rfl)) (HL) rfl ?_
    exact ⟨rfl, hG, Aq⟩
   refine allOps_cons 5 ?_ ?_
   ·refine kF rfl ?_
    rintro L ac wx hL hd ⟨rfl, hG, Aq⟩
    obtain ⟨e0, -⟩ := hd
    refine wp_call1 rfl (sel_of (e0 rfl)) (by go_simp) ?_
    refine ((fun w => k_ones (ofT wd a.tv) w) _).mono ?_
    rintro e w1 ⟨rfl, hg⟩
    refine ⟨_, rfl, ?_⟩
    exact ⟨rfl, hG.then hg, Aq.gr hg⟩
   refine allOps_cons 6 ?_ ?_
   ·refine kF rfl ?_
    rintro L ac wx hL hd ⟨rfl, hG, Aq⟩
    obtain ⟨e0, e1, e2, -⟩ := hd
    have HL := Aq; rw [hL] at HL
    refine wp_call2 rfl (sel_of (e0 rfl)) (sel_of (e1 rfl)) (by go_simp) ?_
    refine (k_know b (ofT wd a.tv) (~~~(ofT wd a.tv)) false hk q _ HL).mono ?_
    rintro e w1 ⟨rfl, hn, hgx⟩
    refine ⟨_, rfl, ?_⟩
    exact ⟨rfl, hG.thenx hgx (.inl m1), hn⟩
   refine allOps_cons 7 ?_ ?_
   ·refine kF rfl ?_
    rintro L ac wx hL hd ⟨rfl, hG, Aq⟩
    obtain ⟨e0, e1, e2, e3, e4, e5, e6, e7, e8, -⟩ := hd
    refine wA (v := .bool false) rfl (sel_of (e0 rfl)) ?_
    exact ⟨rfl, hG, Aq⟩
   exact allOps_nil 8
  case fin =>
   rintro L ac wf5 hall ⟨rfl, hG5, B5q⟩
   have l0 : L 0 = true := hall 0 (by decide)
   have l1 : L 1 = true := hall 1 (by decide)
   have l2 : L 2 = true := hall 2 (by decide)
   have l3 : L 3 = true := hall 3 (by decide)
   have l4 : L 4 = true := hall 4 (by decide)
   have l5 : L 5 = true := hall 5 (by decide)
   have l6 : L 6 = true := hall 6 (by decide)
   have l7 : L 7 = true := hall 7 (by decide)
   rw [l6] at B5q
   change AtA wf5 q (bv { b with tv := Tn.mtV b.tv b.tm (ofT wd a.tv) (~~~(ofT wd a.tv)), tm := Tn.mtM b.tv b.tm (ofT wd a.tv) (~~~(ofT wd a.tv)) }) 30 at B5q
   simp only [l0, l1, l2, l3, l4, l5, l6, l7, sel_t]
   have hp_c5 := (hp_4).grl hG5 (n1 hpq)
   have hPW_c5 := (hPW_4).grl hG5 (n1 (Ne.symm nqPW))
   have hp1_12_c5 := (hp1_12_4).grl hG5 (n1 (Ne.symm nq_p1_12))
   have hp1_13_c5 := (hp1_13_4).grl hG5 (n1 (Ne.symm nq_p1_13))
   have hF_c5 := (hF_4).app hG5 (r1 (.inl m22))
   clear l0 l1 l2 l3 l4 l5 l6 l7 hall
   go_wp2
   go_ret
   exact ⟨rfl, hF_c5⟩
set_option maxHeartbeats 16000000 in
theorem set_1t (wd : Bool) (a b : Bd) (p q : Nat) (w : World) (hpq : p ≠ q) (HA : AtA w p (bv a) 30) (HB : AtA w q (bv b) 30) (PW : Nat) (npPW : p ≠ PW) (nqPW : q ≠ PW) (HW : AtA w PW #[.bool wd] 4) (hz : (iv ((ofT wd a.tv) &&& (ofT wd b.tv)) == iv 0#64 && iv (Tn.andM (ofT wd a.tv) (ofT wd a.tm) (ofT wd b.tv) (ofT wd b.tm)) == iv 0#64) = false) (ho1 : oneM (ofT wd a.tv) (ofT wd a.tm) = true) (hk : Tn.meetX b.tv b.tm (ofT wd a.tv) (~~~(ofT wd a.tv)) = true) : Calls Tryz.prog 267 #[.pointer (some ⟨p, 0, none⟩), .pointer (some ⟨q, 0, none⟩), .pointer (some ⟨PW, 0, none⟩)] w fun e w' => e = .returned (.bool true) ∧ AtA w' p (bv a) 30 ∧ AtA w' q (bv { b with tv := Tn.mtV b.tv b.tm (ofT wd a.tv) (~~~(ofT wd a.tv)), tm := Tn.mtM b.tv b.tm (ofT wd a.tv) (~~~(ofT wd a.tv)) }) 30 ∧ GrL [p, q] w w' := by
 go_enter Tryz.func267, Tryz.ntmps267
 go_upto_region 0 with fail
 refine rG ?_
 refine sF rfl ?_
 refine wA (v := .bool false) rfl rfl ?_
 simp only [Act.put, zs, z0, z1]
 refine s_end ?_
 go_upto_region 1 with fail
 refine wp_region_inv (by kernel_rfl) (fun L ac wx => ∃ (p1_12 : Nat) (p1_13 : Nat), ac = ⟨(.pointer (some ⟨p, 0, none⟩) :: .pointer (some ⟨q, 0, none⟩) :: .pointer (some ⟨PW, 0, none⟩) :: undef :: undef :: .bool false :: sel (L 12) (.pointer (some ⟨p1_12, 0, none⟩)) (undef) :: sel (L 13) (.pointer (some ⟨p1_13, 0, none⟩)) (undef) :: sel (L 0) (.pointer (some ⟨p, 0, none⟩)) (undef) :: sel (L 1) (.pointer (some ⟨p, 0, none⟩)) (undef) :: sel (L 2) (.pointer (some ⟨p, 0, none⟩)) (undef) :: sel (L 3) (.agg #[.int .u64 (iv a.tv), .int .u64 (iv a.tm)]) (undef) :: sel (L 4) (.bool wd) (undef) :: sel (L 5) (.agg #[.int .u64 (iv (ofT wd a.tv)), .int .u64 (iv (ofT wd a.tm))]) (undef) :: sel (L 6) (.pointer (some ⟨q, 0, none⟩)) (undef) :: sel (L 7) (.pointer (some ⟨q, 0, none⟩)) (undef) :: sel (L 8) (.pointer (some ⟨q, 0, none⟩)) (undef) :: sel (L 9) (.agg #[.int .u64 (iv b.tv), .int .u64 (iv b.tm)]) (undef) :: sel (L 10) (.bool wd) (undef) :: sel (L 11) (.agg #[.int .u64 (iv (ofT wd b.tv)), .int .u64 (iv (ofT wd b.tm))]) (undef) :: undef :: undef :: undef :: undef :: undef :: undef :: undef :: undef :: undef :: undef :: undef :: undef :: undef :: undef :: undef :: undef :: undef :: undef :: undef :: undef :: undef :: undef :: undef :: undef :: undef :: undef :: [] : List Value).toArray, []⟩ ∧ GrL [] w wx ∧ (L 12 = true → w.heap.size ≤ p1_12 ∧ AtA wx p1_12 (sel (L 14) (#[.int .u64 (iv (ofT wd a.tv)), .int .u64 (iv (ofT wd a.tm))]) (#[.int .u64 0, .int .u64 0])) 24) ∧ (L 13 = true → w.heap.size ≤ p1_13 ∧ AtA wx p1_13 (sel (L 15) (#[.int .u64 (iv (ofT wd b.tv)), .int .u64 (iv (ofT wd b.tm))]) (#[.int .u64 0, .int .u64 0])) 24) ∧ (L 14 = true → L 12 = true) ∧ (L 15 = true → L 13 = true) ∧ (L 12 = true → L 13 = true → p1_12 ≠ p1_13)) (by kernel_rfl) ?h0 ?step ?fin
 case h0 => exact ⟨0, 0, rfl, GrL.of (Gr.drew (Gr.refl _)), (fun h => by cases h), (fun h => by cases h), (fun h => by cases h), (fun h => by cases h), (fun h => by cases h)⟩
 case step =>
  refine allOps_cons 0 ?_ ?_
  ·refine kF rfl ?_
   rintro L ac wx hL hd ⟨p1_12, p1_13, rfl, hG, f12, f13, s14, s15, g12_13⟩
   refine wM (v := .pointer (some ⟨p, 0, none⟩)) rfl rfl ?_
   exact ⟨p1_12, p1_13, rfl, hG, f12, f13, s14, s15, g12_13⟩
  refine allOps_cons 1 ?_ ?_
  ·refine kF rfl ?_
   rintro L ac wx hL hd ⟨p1_12, p1_13, rfl, hG, f12, f13, s14, s15, g12_13⟩
   obtain ⟨e0, -⟩ := hd
   refine wp_nil (r := ⟨p, 0, none⟩) rfl (sel_of (e0 rfl)) ?_
   exact ⟨p1_12, p1_13, rfl, hG, f12, f13, s14, s15, g12_13⟩
  refine allOps_cons 2 ?_ ?_
  ·refine kF rfl ?_
   rintro L ac wx hL hd ⟨p1_12, p1_13, rfl, hG, f12, f13, s14, s15, g12_13⟩
   obtain ⟨e0, -⟩ := hd
   refine wp_fa0 rfl (sel_of (e0 rfl)) ?_
   exact ⟨p1_12, p1_13, rfl, hG, f12, f13, s14, s15, g12_13⟩
  refine allOps_cons 3 ?_ ?_
  ·refine kF rfl ?_
   rintro L ac wx hL hd ⟨p1_12, p1_13, rfl, hG, f12, f13, s14, s15, g12_13⟩
   obtain ⟨e0, -⟩ := hd
   have HL := (HA).grl hG n0
   refine wp_pT (v0 := .int .u64 (iv a.tv)) (v1 := .int .u64 (iv a.tm)) rfl (sel_of (e0 rfl)) (HL) rfl rfl ?_
   exact ⟨p1_12, p1_13, rfl, hG, f12, f13, s14, s15, g12_13⟩
  refine allOps_cons 4 ?_ ?_
  ·refine kF rfl ?_
   rintro L ac wx hL hd ⟨p1_12, p1_13, rfl, hG, f12, f13, s14, s15, g12_13⟩
   have HL := (HW).grl hG n0
   refine wp_ld_bool (v := .bool wd) rfl rfl (HL) rfl ?_
   exact ⟨p1_12, p1_13, rfl, hG, f12, f13, s14, s15, g12_13⟩
  refine allOps_cons 5 ?_ ?_
  ·refine kF rfl ?_
   rintro L ac wx hL hd ⟨p1_12, p1_13, rfl, hG, f12, f13, s14, s15, g12_13⟩
   obtain ⟨e0, e1, -⟩ := hd
   refine wp_call2 rfl (sel_of (e0 rfl)) (sel_of (e1 rfl)) (by go_simp) ?_
   refine ((fun w => k_bitsOf wd a.tv a.tm w) _).mono ?_
   rintro e w1 ⟨rfl, hg⟩
   refine ⟨_, rfl, ?_⟩
   exact ⟨p1_12, p1_13, rfl, hG.then hg, fun h => ⟨(f12 h).1, (f12 h).2.gr hg⟩, fun h => ⟨(f13 h).1, (f13 h).2.gr hg⟩, s14, s15, g12_13⟩
  refine allOps_cons 6 ?_ ?_
  ·refine kF rfl ?_
   rintro L ac wx hL hd ⟨p1_12, p1_13, rfl, hG, f12, f13, s14, s15, g12_13⟩
   refine wM (v := .pointer (some ⟨q, 0, none⟩)) rfl rfl ?_
   exact ⟨p1_12, p1_13, rfl, hG, f12, f13, s14, s15, g12_13⟩
  refine allOps_cons 7 ?_ ?_
  ·refine kF rfl ?_
   rintro L ac wx hL hd ⟨p1_12, p1_13, rfl, hG, f12, f13, s14, s15, g12_13⟩
   obtain ⟨e0, -⟩ := hd
   refine wp_nil (r := ⟨q, 0, none⟩) rfl (sel_of (e0 rfl)) ?_
   exact ⟨p1_12, p1_13, rfl, hG, f12, f13, s14, s15, g12_13⟩
  refine allOps_cons 8 ?_ ?_
  ·refine kF rfl ?_
   rintro L ac wx hL hd ⟨p1_12, p1_13, rfl, hG, f12, f13, s14, s15, g12_13⟩
   obtain ⟨e0, -⟩ := hd
   refine wp_fa0 rfl (sel_of (e0 rfl)) ?_
   exact ⟨p1_12, p1_13, rfl, hG, f12, f13, s14, s15, g12_13⟩
  refine allOps_cons 9 ?_ ?_
  ·refine kF rfl ?_
   rintro L ac wx hL hd ⟨p1_12, p1_13, rfl, hG, f12, f13, s14, s15, g12_13⟩
   obtain ⟨e0, -⟩ := hd
   have HL := (HB).grl hG n0
   refine wp_pT (v0 := .int .u64 (iv b.tv)) (v1 := .int .u64 (iv b.tm)) rfl (sel_of (e0 rfl)) (HL) rfl rfl ?_
   exact ⟨p1_12, p1_13, rfl, hG, f12, f13, s14, s15, g12_13⟩
  refine allOps_cons 10 ?_ ?_
  ·refine kF rfl ?_
   rintro L ac wx hL hd ⟨p1_12, p1_13, rfl, hG, f12, f13, s14, s15, g12_13⟩
   have HL := (HW).grl hG n0
   refine wp_ld_bool (v := .bool wd) rfl rfl (HL) rfl ?_
   exact ⟨p1_12, p1_13, rfl, hG, f12, f13, s14, s15, g12_13⟩
  refine allOps_cons 11 ?_ ?_
  ·refine kF rfl ?_
   rintro L ac wx hL hd ⟨p1_12, p1_13, rfl, hG, f12, f13, s14, s15, g12_13⟩
   obtain ⟨e0, e1, e2, -⟩ := hd
   refine wp_call2 rfl (sel_of (e0 rfl)) (sel_of (e1 rfl)) (by go_simp) ?_
   refine ((fun w => k_bitsOf wd b.tv b.tm w) _).mono ?_
   rintro e w1 ⟨rfl, hg⟩
   refine ⟨_, rfl, ?_⟩
   exact ⟨p1_12, p1_13, rfl, hG.then hg, fun h => ⟨(f12 h).1, (f12 h).2.gr hg⟩, fun h => ⟨(f13 h).1, (f13 h).2.gr hg⟩, s14, s15, g12_13⟩
  refine allOps_cons 12 ?_ ?_
  ·refine kF rfl ?_
   rintro L ac wx hL hd ⟨p1_12, p1_13, rfl, hG, f12, f13, s14, s15, g12_13⟩
   have ls : L 14 = false := by
    cases h : L 14 with
    | false => rfl
    | true => have := s14 h; rw [hL] at this; cases this
   refine wp_allocT rfl ?_
   intro w1 hn hg
   exact ⟨wx.heap.size, p1_13, rfl, hG.then hg, fun _ => ⟨hG.size, by rw [show upd L 12 14 = false from ls]; exact hn⟩, fun h => ⟨(f13 h).1, (f13 h).2.gr hg⟩, fun _ => rfl, s15, fun _ h => by have z := (f13 h).2.lt; omega⟩
  refine allOps_cons 13 ?_ ?_
  ·refine kF rfl ?_
   rintro L ac wx hL hd ⟨p1_12, p1_13, rfl, hG, f12, f13, s14, s15, g12_13⟩
   have ls : L 15 = false := by
    cases h : L 15 with
    | false => rfl
    | true => have := s15 h; rw [hL] at this; cases this
   refine wp_allocT rfl ?_
   intro w1 hn hg
   exact ⟨p1_12, wx.heap.size, rfl, hG.then hg, fun h => ⟨(f12 h).1, (f12 h).2.gr hg⟩, fun _ => ⟨hG.size, by rw [show upd L 13 15 = false from ls]; exact hn⟩, s14, fun _ => rfl, fun h _ => by have z := (f12 h).2.lt; omega⟩
  refine allOps_cons 14 ?_ ?_
  ·refine kF rfl ?_
   rintro L ac wx hL hd ⟨p1_12, p1_13, rfl, hG, f12, f13, s14, s15, g12_13⟩
   obtain ⟨e0, e1, e2, e3, e4, e5, e6, e7, e8, e9, e10, e11, e12, e13, e14, e15, e16, -⟩ := hd
   have lp : L 12 = true := e0 rfl
   obtain ⟨k12, z12⟩ := f12 lp
   have HL := z12; rw [hL] at HL
   refine wp_storeT rfl (sel_of (e0 rfl)) (sel_of (e1 rfl)) HL ?_
   intro w1 hn hgx
   exact ⟨p1_12, p1_13, rfl, hG.thenx hgx (.inr k12), fun _ => ⟨k12, hn⟩, fun h => ⟨(f13 h).1, (f13 h).2.grx hgx (Ne.symm (g12_13 lp h))⟩, fun _ => lp, s15, g12_13⟩
  refine allOps_cons 15 ?_ ?_
  ·refine kF rfl ?_
   rintro L ac wx hL hd ⟨p1_12, p1_13, rfl, hG, f12, f13, s14, s15, g12_13⟩
   obtain ⟨e0, e1, e2, e3, e4, e5, e6, e7, e8, e9, e10, e11, e12, e13, e14, e15, e16, e17, -⟩ := hd
   have lp : L 13 = true := e0 rfl
   obtain ⟨k13, z13⟩ := f13 lp
   have HL := z13; rw [hL] at HL
   refine wp_storeT rfl (sel_of (e0 rfl)) (sel_of (e1 rfl)) HL ?_
   intro w1 hn hgx
   exact ⟨p1_12, p1_13, rfl, hG.thenx hgx (.inr k13), fun h => ⟨(f12 h).1, (f12 h).2.grx hgx (g12_13 h lp)⟩, fun _ => ⟨k13, hn⟩, s14, fun _ => lp, g12_13⟩
  exact allOps_nil 16
 case fin =>
  rintro L ac wf1 hall ⟨p1_12, p1_13, rfl, hG1, f12, f13, s14, s15, g12_13⟩
  have l0 : L 0 = true := hall 0 (by decide)
  have l1 : L 1 = true := hall 1 (by decide)
  have l2 : L 2 = true := hall 2 (by decide)
  have l3 : L 3 = true := hall 3 (by decide)
  have l4 : L 4 = true := hall 4 (by decide)
  have l5 : L 5 = true := hall 5 (by decide)
  have l6 : L 6 = true := hall 6 (by decide)
  have l7 : L 7 = true := hall 7 (by decide)
  have l8 : L 8 = true := hall 8 (by decide)
  have l9 : L 9 = true := hall 9 (by decide)
  have l10 : L 10 = true := hall 10 (by decide)
  have l11 : L 11 = true := hall 11 (by decide)
  have l12 : L 12 = true := hall 12 (by decide)
  have l13 : L 13 = true := hall 13 (by decide)
  have l14 : L 14 = true := hall 14 (by decide)
  have l15 : L 15 = true := hall 15 (by decide)
  obtain ⟨kp1_12, zp1_12⟩ := f12 l12
  rw [l14] at zp1_12
  change AtA wf1 p1_12 (#[.int .u64 (iv (ofT wd a.tv)), .int .u64 (iv (ofT wd a.tm))]) 24 at zp1_12
  obtain ⟨kp1_13, zp1_13⟩ := f13 l13
  rw [l15] at zp1_13
  change AtA wf1 p1_13 (#[.int .u64 (iv (ofT wd b.tv)), .int .u64 (iv (ofT wd b.tm))]) 24 at zp1_13
  have np1_12_p1_13 := g12_13 l12 l13
  simp only [l0, l1, l2, l3, l4, l5, l6, l7, l8, l9, l10, l11, l12, l13, sel_t]
  have np_p1_12 : p ≠ p1_12 := Nat.ne_of_lt (Nat.lt_of_lt_of_le (HA).lt kp1_12)
  have np_p1_13 : p ≠ p1_13 := Nat.ne_of_lt (Nat.lt_of_lt_of_le (HA).lt kp1_13)
  have nq_p1_12 : q ≠ p1_12 := Nat.ne_of_lt (Nat.lt_of_lt_of_le (HB).lt kp1_12)
  have nq_p1_13 : q ≠ p1_13 := Nat.ne_of_lt (Nat.lt_of_lt_of_le (HB).lt kp1_13)
  have nPW_p1_12 : PW ≠ p1_12 := Nat.ne_of_lt (Nat.lt_of_lt_of_le (HW).lt kp1_12)
  have nPW_p1_13 : PW ≠ p1_13 := Nat.ne_of_lt (Nat.lt_of_lt_of_le (HW).lt kp1_13)
  have frp1_12 := Nat.le_trans (GrL.refl [p, q] w).size kp1_12
  have frp1_13 := Nat.le_trans (GrL.refl [p, q] w).size kp1_13
  have hp_c1 := (HA).grl hG1 n0
  have hq_c1 := (HB).grl hG1 n0
  have hPW_c1 := (HW).grl hG1 n0
  have hF_c1 := (GrL.refl [p, q] w).app hG1 (r0 )
  clear l0 l1 l2 l3 l4 l5 l6 l7 l8 l9 l10 l11 l12 l13 l14 l15 hall f12 f13 s14 s15 g12_13
  go_upto_region 2 with fail
  refine rG ?_
  refine sF rfl ?_
  refine wp_pT (v0 := .int .u64 (iv (ofT wd a.tv))) (v1 := .int .u64 (iv (ofT wd a.tm))) rfl rfl (zp1_12) rfl rfl ?_
  simp only [Act.put, zs, z0, z1]
  refine sF rfl ?_
  refine wp_pT (v0 := .int .u64 (iv (ofT wd b.tv))) (v1 := .int .u64 (iv (ofT wd b.tm))) rfl rfl (zp1_13) rfl rfl ?_
  simp only [Act.put, zs, z0, z1]
  refine sF rfl ?_
  refine wp_call2 rfl rfl rfl (by go_simp) ?_
  refine ((fun w => cv (Tn.and_any (ofT wd a.tv) (ofT wd a.tm) (ofT wd b.tv) (ofT wd b.tm) w)) _).mono ?_
  rintro e wk2 ⟨rfl, hk2⟩
  refine ⟨_, rfl, ?_⟩
  have hp_2 := (hp_c1).gr hk2
  have hq_2 := (hq_c1).gr hk2
  have hPW_2 := (hPW_c1).gr hk2
  have hp1_12_2 := (zp1_12).gr hk2
  have hp1_13_2 := (zp1_13).gr hk2
  have hF_2 := (hF_c1).then hk2
  simp only [Act.put, zs, z0, z1]
  refine sF rfl ?_
  refine wp_call1 rfl rfl (by go_simp) ?_
  refine ((fun w => cv (Tn.cst_gr (0#64) w)) _).mono ?_
  rintro e wk3 ⟨rfl, hk3⟩
  refine ⟨_, rfl, ?_⟩
  have hp_3 := (hp_2).gr hk3
  have hq_3 := (hq_2).gr hk3
  have hPW_3 := (hPW_2).gr hk3
  have hp1_12_3 := (hp1_12_2).gr hk3
  have hp1_13_3 := (hp1_13_2).gr hk3
  have hF_3 := (hF_2).then hk3
  simp only [Act.put, zs, z0, z1]
  refine sF rfl ?_
  refine wp_eqT (r := false) rfl rfl rfl hz ?_
  simp only [Act.put, zs, z0, z1]
  refine sF rfl ?_
  refine wA (v := .bool false) rfl rfl ?_
  simp only [Act.put, zs, z0, z1]
  refine s_end ?_
  go_upto_region 4 with fail
  refine rG ?_
  refine sF rfl ?_
  refine wp_pT (v0 := .int .u64 (iv (ofT wd a.tv))) (v1 := .int .u64 (iv (ofT wd a.tm))) rfl rfl (hp1_12_3) rfl rfl ?_
  simp only [Act.put, zs, z0, z1]
  refine sF rfl ?_
  refine wp_call1 rfl rfl (by go_simp) ?_
  refine ((fun w => k_oneBit (ofT wd a.tv) (ofT wd a.tm) w) _).mono ?_
  rintro e wk4 ⟨he4, hk4⟩
  obtain rfl : e = .returned (.bool true) := he4.trans (by rw [ho1])
  clear he4
  refine ⟨_, rfl, ?_⟩
  have hp_4 := (hp_3).gr hk4
  have hq_4 := (hq_3).gr hk4
  have hPW_4 := (hPW_3).gr hk4
  have hp1_12_4 := (hp1_12_3).gr hk4
  have hp1_13_4 := (hp1_13_3).gr hk4
  have hF_4 := (hF_3).then hk4
  simp only [Act.put, zs, z0, z1]
  refine sF rfl ?_
  refine wA (v := .bool true) rfl rfl ?_
  simp only [Act.put, zs, z0, z1]
  refine s_end ?_
  go_upto_region 5 with fail
  refine wp_region_inv (by kernel_rfl) (fun L ac wx =>  ac = ⟨(.pointer (some ⟨p, 0, none⟩) :: .pointer (some ⟨q, 0, none⟩) :: .pointer (some ⟨PW, 0, none⟩) :: undef :: undef :: sel (L 7) (.bool true) (.bool false) :: .pointer (some ⟨p1_12, 0, none⟩) :: .pointer (some ⟨p1_13, 0, none⟩) :: .pointer (some ⟨p, 0, none⟩) :: .pointer (some ⟨p, 0, none⟩) :: .pointer (some ⟨p, 0, none⟩) :: .agg #[.int .u64 (iv a.tv), .int .u64 (iv a.tm)] :: .bool wd :: .agg #[.int .u64 (iv (ofT wd a.tv)), .int .u64 (iv (ofT wd a.tm))] :: .pointer (some ⟨q, 0, none⟩) :: .pointer (some ⟨q, 0, none⟩) :: .pointer (some ⟨q, 0, none⟩) :: .agg #[.int .u64 (iv b.tv), .int .u64 (iv b.tm)] :: .bool wd :: .agg #[.int .u64 (iv (ofT wd b.tv)), .int .u64 (iv (ofT wd b.tm))] :: .bool false :: .agg #[.int .u64 (iv (ofT wd a.tv)), .int .u64 (iv (ofT wd a.tm))] :: .agg #[.int .u64 (iv (ofT wd b.tv)), .int .u64 (iv (ofT wd b.tm))] :: .agg #[.int .u64 (iv ((ofT wd a.tv) &&& (ofT wd b.tv))), .int .u64 (iv (Tn.andM (ofT wd a.tv) (ofT wd a.tm) (ofT wd b.tv) (ofT wd b.tm)))] :: .agg #[.int .u64 (iv (0#64)), .int .u64 (iv 0#64)] :: .bool false :: .bool true :: .agg #[.int .u64 (iv (ofT wd a.tv)), .int .u64 (iv (ofT wd a.tm))] :: .bool true :: sel (L 0) (.pointer (some ⟨q, 0, none⟩)) (undef) :: sel (L 1) (.pointer (some ⟨q, 0, none⟩)) (undef) :: sel (L 2) (.pointer (some ⟨q, 0, none⟩)) (undef) :: sel (L 3) (.pointer (some ⟨p1_12, 0, none⟩)) (undef) :: sel (L 4) (.int .u64 (iv (ofT wd a.tv))) (undef) :: sel (L 5) (.agg #[.int .u64 (iv (ofT wd a.tv)), .int .u64 (iv (~~~(ofT wd a.tv)))]) (undef) :: sel (L 6) (.bool true) (undef) :: undef :: undef :: undef :: undef :: undef :: undef :: undef :: undef :: undef :: undef :: [] : List Value).toArray, []⟩ ∧ GrL [q] wk4 wx ∧ AtA wx q (sel (L 6) (bv { b with tv := Tn.mtV b.tv b.tm (ofT wd a.tv) (~~~(ofT wd a.tv)), tm := Tn.mtM b.tv b.tm (ofT wd a.tv) (~~~(ofT wd a.tv)) }) (bv b)) 30) (by kernel_rfl) ?h0 ?step ?fin
  case h0 => exact ⟨rfl, GrL.of (Gr.drew (Gr.refl _)), (hq_4).drew⟩
  case step =>
   refine allOps_cons 0 ?_ ?_
   ·refine kF rfl ?_
    rintro L ac wx hL hd ⟨rfl, hG, Aq⟩
    refine wM (v := .pointer (some ⟨q, 0, none⟩)) rfl rfl ?_
    exact ⟨rfl, hG, Aq⟩
   refine allOps_cons 1 ?_ ?_
   ·refine kF rfl ?_
    rintro L ac wx hL hd ⟨rfl, hG, Aq⟩
    obtain ⟨e0, -⟩ := hd
    refine wp_nil (r := ⟨q, 0, none⟩) rfl (sel_of (e0 rfl)) ?_
    exact ⟨rfl, hG, Aq⟩
   refine allOps_cons 2 ?_ ?_
   ·refine kF rfl ?_
    rintro L ac wx hL hd ⟨rfl, hG, Aq⟩
    obtain ⟨e0, -⟩ := hd
    refine wp_fa0 rfl (sel_of (e0 rfl)) ?_
    exact ⟨rfl, hG, Aq⟩
   refine allOps_cons 3 ?_ ?_
   ·refine kF rfl ?_
    rintro L ac wx hL hd ⟨rfl, hG, Aq⟩
    refine wp_fT0 rfl rfl ?_
    exact ⟨rfl, hG, Aq⟩
   refine allOps_cons 4 ?_ ?_
   ·refine kF rfl ?_
    rintro L ac wx hL hd ⟨rfl, hG, Aq⟩
    obtain ⟨e0, -⟩ := hd
    have HL := (hp1_12_4).grl hG (n1 (Ne.symm nq_p1_12))
    refine wp_ld_uint64 (v := .int .u64 (iv (ofT wd a.tv))) rfl (sel_of (e0 rfl)) (HL) rfl ?_
    exact ⟨rfl, hG, Aq⟩
   refine allOps_cons 5 ?_ ?_
   ·refine kF rfl ?_
    rintro L ac wx hL hd ⟨rfl, hG, Aq⟩
    obtain ⟨e0, -⟩ := hd
    refine wp_call1 rfl (sel_of (e0 rfl)) (by go_simp) ?_
    refine ((fun w => k_ones (ofT wd a.tv) w) _).mono ?_
    rintro e w1 ⟨rfl, hg⟩
    refine ⟨_, rfl, ?_⟩
    exact ⟨rfl, hG.then hg, Aq.gr hg⟩
   refine allOps_cons 6 ?_ ?_
   ·refine kF rfl ?_
    rintro L ac wx hL hd ⟨rfl, hG, Aq⟩
    obtain ⟨e0, e1, e2, -⟩ := hd
    have HL := Aq; rw [hL] at HL
    refine wp_call2 rfl (sel_of (e0 rfl)) (sel_of (e1 rfl)) (by go_simp) ?_
    refine (k_know b (ofT wd a.tv) (~~~(ofT wd a.tv)) true hk q _ HL).mono ?_
    rintro e w1 ⟨rfl, hn, hgx⟩
    refine ⟨_, rfl, ?_⟩
    exact ⟨rfl, hG.thenx hgx (.inl m1), hn⟩
   refine allOps_cons 7 ?_ ?_
   ·refine kF rfl ?_
    rintro L ac wx hL hd ⟨rfl, hG, Aq⟩
    obtain ⟨e0, e1, e2, e3, e4, e5, e6, e7, e8, -⟩ := hd
    refine wA (v := .bool true) rfl (sel_of (e0 rfl)) ?_
    exact ⟨rfl, hG, Aq⟩
   exact allOps_nil 8
  case fin =>
   rintro L ac wf5 hall ⟨rfl, hG5, B5q⟩
   have l0 : L 0 = true := hall 0 (by decide)
   have l1 : L 1 = true := hall 1 (by decide)
   have l2 : L 2 = true := hall 2 (by decide)
   have l3 : L 3 = true := hall 3 (by decide)
   have l4 : L 4 = true := hall 4 (by decide)
   have l5 : L 5 = true := hall 5 (by decide)
   have l6 : L 6 = true := hall 6 (by decide)
   have l7 : L 7 = true := hall 7 (by decide)
   rw [l6] at B5q
   change AtA wf5 q (bv { b with tv := Tn.mtV b.tv b.tm (ofT wd a.tv) (~~~(ofT wd a.tv)), tm := Tn.mtM b.tv b.tm (ofT wd a.tv) (~~~(ofT wd a.tv)) }) 30 at B5q
   simp only [l0, l1, l2, l3, l4, l5, l6, l7, sel_t]
   have hp_c5 := (hp_4).grl hG5 (n1 hpq)
   have hPW_c5 := (hPW_4).grl hG5 (n1 (Ne.symm nqPW))
   have hp1_12_c5 := (hp1_12_4).grl hG5 (n1 (Ne.symm nq_p1_12))
   have hp1_13_c5 := (hp1_13_4).grl hG5 (n1 (Ne.symm nq_p1_13))
   have hF_c5 := (hF_4).app hG5 (r1 (.inl m22))
   clear l0 l1 l2 l3 l4 l5 l6 l7 hall
   go_wp2
   go_ret
   exact ⟨rfl, hp_c5, B5q, hF_c5⟩
set_option maxHeartbeats 16000000 in
theorem set_2n (wd : Bool) (a b : Bd) (p q : Nat) (w : World) (hpq : p ≠ q) (HA : AtA w p (bv a) 30) (HB : AtA w q (bv b) 30) (PW : Nat) (npPW : p ≠ PW) (nqPW : q ≠ PW) (HW : AtA w PW #[.bool wd] 4) (hz : (iv ((ofT wd a.tv) &&& (ofT wd b.tv)) == iv 0#64 && iv (Tn.andM (ofT wd a.tv) (ofT wd a.tm) (ofT wd b.tv) (ofT wd b.tm)) == iv 0#64) = false) (ho1 : oneM (ofT wd a.tv) (ofT wd a.tm) = false) (ho2 : oneM (ofT wd b.tv) (ofT wd b.tm) = true) (hk : Tn.meetX a.tv a.tm (ofT wd b.tv) (~~~(ofT wd b.tv)) = false) : Calls Tryz.prog 267 #[.pointer (some ⟨p, 0, none⟩), .pointer (some ⟨q, 0, none⟩), .pointer (some ⟨PW, 0, none⟩)] w fun e w' => e = .returned (.bool false) ∧ GrL [p, q] w w' := by
 go_enter Tryz.func267, Tryz.ntmps267
 go_upto_region 0 with fail
 refine rG ?_
 refine sF rfl ?_
 refine wA (v := .bool false) rfl rfl ?_
 simp only [Act.put, zs, z0, z1]
 refine s_end ?_
 go_upto_region 1 with fail
 refine wp_region_inv (by kernel_rfl) (fun L ac wx => ∃ (p1_12 : Nat) (p1_13 : Nat), ac = ⟨(.pointer (some ⟨p, 0, none⟩) :: .pointer (some ⟨q, 0, none⟩) :: .pointer (some ⟨PW, 0, none⟩) :: undef :: undef :: .bool false :: sel (L 12) (.pointer (some ⟨p1_12, 0, none⟩)) (undef) :: sel (L 13) (.pointer (some ⟨p1_13, 0, none⟩)) (undef) :: sel (L 0) (.pointer (some ⟨p, 0, none⟩)) (undef) :: sel (L 1) (.pointer (some ⟨p, 0, none⟩)) (undef) :: sel (L 2) (.pointer (some ⟨p, 0, none⟩)) (undef) :: sel (L 3) (.agg #[.int .u64 (iv a.tv), .int .u64 (iv a.tm)]) (undef) :: sel (L 4) (.bool wd) (undef) :: sel (L 5) (.agg #[.int .u64 (iv (ofT wd a.tv)), .int .u64 (iv (ofT wd a.tm))]) (undef) :: sel (L 6) (.pointer (some ⟨q, 0, none⟩)) (undef) :: sel (L 7) (.pointer (some ⟨q, 0, none⟩)) (undef) :: sel (L 8) (.pointer (some ⟨q, 0, none⟩)) (undef) :: sel (L 9) (.agg #[.int .u64 (iv b.tv), .int .u64 (iv b.tm)]) (undef) :: sel (L 10) (.bool wd) (undef) :: sel (L 11) (.agg #[.int .u64 (iv (ofT wd b.tv)), .int .u64 (iv (ofT wd b.tm))]) (undef) :: undef :: undef :: undef :: undef :: undef :: undef :: undef :: undef :: undef :: undef :: undef :: undef :: undef :: undef :: undef :: undef :: undef :: undef :: undef :: undef :: undef :: undef :: undef :: undef :: undef :: undef :: [] : List Value).toArray, []⟩ ∧ GrL [] w wx ∧ (L 12 = true → w.heap.size ≤ p1_12 ∧ AtA wx p1_12 (sel (L 14) (#[.int .u64 (iv (ofT wd a.tv)), .int .u64 (iv (ofT wd a.tm))]) (#[.int .u64 0, .int .u64 0])) 24) ∧ (L 13 = true → w.heap.size ≤ p1_13 ∧ AtA wx p1_13 (sel (L 15) (#[.int .u64 (iv (ofT wd b.tv)), .int .u64 (iv (ofT wd b.tm))]) (#[.int .u64 0, .int .u64 0])) 24) ∧ (L 14 = true → L 12 = true) ∧ (L 15 = true → L 13 = true) ∧ (L 12 = true → L 13 = true → p1_12 ≠ p1_13)) (by kernel_rfl) ?h0 ?step ?fin
 case h0 => exact ⟨0, 0, rfl, GrL.of (Gr.drew (Gr.refl _)), (fun h => by cases h), (fun h => by cases h), (fun h => by cases h), (fun h => by cases h), (fun h => by cases h)⟩
 case step =>
  refine allOps_cons 0 ?_ ?_
  ·refine kF rfl ?_
   rintro L ac wx hL hd ⟨p1_12, p1_13, rfl, hG, f12, f13, s14, s15, g12_13⟩
   refine wM (v := .pointer (some ⟨p, 0, none⟩)) rfl rfl ?_
   exact ⟨p1_12, p1_13, rfl, hG, f12, f13, s14, s15, g12_13⟩
  refine allOps_cons 1 ?_ ?_
  ·refine kF rfl ?_
   rintro L ac wx hL hd ⟨p1_12, p1_13, rfl, hG, f12, f13, s14, s15, g12_13⟩
   obtain ⟨e0, -⟩ := hd
   refine wp_nil (r := ⟨p, 0, none⟩) rfl (sel_of (e0 rfl)) ?_
   exact ⟨p1_12, p1_13, rfl, hG, f12, f13, s14, s15, g12_13⟩
  refine allOps_cons 2 ?_ ?_
  ·refine kF rfl ?_
   rintro L ac wx hL hd ⟨p1_12, p1_13, rfl, hG, f12, f13, s14, s15, g12_13⟩
   obtain ⟨e0, -⟩ := hd
   refine wp_fa0 rfl (sel_of (e0 rfl)) ?_
   exact ⟨p1_12, p1_13, rfl, hG, f12, f13, s14, s15, g12_13⟩
  refine allOps_cons 3 ?_ ?_
  ·refine kF rfl ?_
   rintro L ac wx hL hd ⟨p1_12, p1_13, rfl, hG, f12, f13, s14, s15, g12_13⟩
   obtain ⟨e0, -⟩ := hd
   have HL := (HA).grl hG n0
   refine wp_pT (v0 := .int .u64 (iv a.tv)) (v1 := .int .u64 (iv a.tm)) rfl (sel_of (e0 rfl)) (HL) rfl rfl ?_
   exact ⟨p1_12, p1_13, rfl, hG, f12, f13, s14, s15, g12_13⟩
  refine allOps_cons 4 ?_ ?_
  ·refine kF rfl ?_
   rintro L ac wx hL hd ⟨p1_12, p1_13, rfl, hG, f12, f13, s14, s15, g12_13⟩
   have HL := (HW).grl hG n0
   refine wp_ld_bool (v := .bool wd) rfl rfl (HL) rfl ?_
   exact ⟨p1_12, p1_13, rfl, hG, f12, f13, s14, s15, g12_13⟩
  refine allOps_cons 5 ?_ ?_
  ·refine kF rfl ?_
   rintro L ac wx hL hd ⟨p1_12, p1_13, rfl, hG, f12, f13, s14, s15, g12_13⟩
   obtain ⟨e0, e1, -⟩ := hd
   refine wp_call2 rfl (sel_of (e0 rfl)) (sel_of (e1 rfl)) (by go_simp) ?_
   refine ((fun w => k_bitsOf wd a.tv a.tm w) _).mono ?_
   rintro e w1 ⟨rfl, hg⟩
   refine ⟨_, rfl, ?_⟩
   exact ⟨p1_12, p1_13, rfl, hG.then hg, fun h => ⟨(f12 h).1, (f12 h).2.gr hg⟩, fun h => ⟨(f13 h).1, (f13 h).2.gr hg⟩, s14, s15, g12_13⟩
  refine allOps_cons 6 ?_ ?_
  ·refine kF rfl ?_
   rintro L ac wx hL hd ⟨p1_12, p1_13, rfl, hG, f12, f13, s14, s15, g12_13⟩
   refine wM (v := .pointer (some ⟨q, 0, none⟩)) rfl rfl ?_
   exact ⟨p1_12, p1_13, rfl, hG, f12, f13, s14, s15, g12_13⟩
  refine allOps_cons 7 ?_ ?_
  ·refine kF rfl ?_
   rintro L ac wx hL hd ⟨p1_12, p1_13, rfl, hG, f12, f13, s14, s15, g12_13⟩
   obtain ⟨e0, -⟩ := hd
   refine wp_nil (r := ⟨q, 0, none⟩) rfl (sel_of (e0 rfl)) ?_
   exact ⟨p1_12, p1_13, rfl, hG, f12, f13, s14, s15, g12_13⟩
  refine allOps_cons 8 ?_ ?_
  ·refine kF rfl ?_
   rintro L ac wx hL hd ⟨p1_12, p1_13, rfl, hG, f12, f13, s14, s15, g12_13⟩
   obtain ⟨e0, -⟩ := hd
   refine wp_fa0 rfl (sel_of (e0 rfl)) ?_
   exact ⟨p1_12, p1_13, rfl, hG, f12, f13, s14, s15, g12_13⟩
  refine allOps_cons 9 ?_ ?_
  ·refine kF rfl ?_
   rintro L ac wx hL hd ⟨p1_12, p1_13, rfl, hG, f12, f13, s14, s15, g12_13⟩
   obtain ⟨e0, -⟩ := hd
   have HL := (HB).grl hG n0
   refine wp_pT (v0 := .int .u64 (iv b.tv)) (v1 := .int .u64 (iv b.tm)) rfl (sel_of (e0 rfl)) (HL) rfl rfl ?_
   exact ⟨p1_12, p1_13, rfl, hG, f12, f13, s14, s15, g12_13⟩
  refine allOps_cons 10 ?_ ?_
  ·refine kF rfl ?_
   rintro L ac wx hL hd ⟨p1_12, p1_13, rfl, hG, f12, f13, s14, s15, g12_13⟩
   have HL := (HW).grl hG n0
   refine wp_ld_bool (v := .bool wd) rfl rfl (HL) rfl ?_
   exact ⟨p1_12, p1_13, rfl, hG, f12, f13, s14, s15, g12_13⟩
  refine allOps_cons 11 ?_ ?_
  ·refine kF rfl ?_
   rintro L ac wx hL hd ⟨p1_12, p1_13, rfl, hG, f12, f13, s14, s15, g12_13⟩
   obtain ⟨e0, e1, e2, -⟩ := hd
   refine wp_call2 rfl (sel_of (e0 rfl)) (sel_of (e1 rfl)) (by go_simp) ?_
   refine ((fun w => k_bitsOf wd b.tv b.tm w) _).mono ?_
   rintro e w1 ⟨rfl, hg⟩
   refine ⟨_, rfl, ?_⟩
   exact ⟨p1_12, p1_13, rfl, hG.then hg, fun h => ⟨(f12 h).1, (f12 h).2.gr hg⟩, fun h => ⟨(f13 h).1, (f13 h).2.gr hg⟩, s14, s15, g12_13⟩
  refine allOps_cons 12 ?_ ?_
  ·refine kF rfl ?_
   rintro L ac wx hL hd ⟨p1_12, p1_13, rfl, hG, f12, f13, s14, s15, g12_13⟩
   have ls : L 14 = false := by
    cases h : L 14 with
    | false => rfl
    | true => have := s14 h; rw [hL] at this; cases this
   refine wp_allocT rfl ?_
   intro w1 hn hg
   exact ⟨wx.heap.size, p1_13, rfl, hG.then hg, fun _ => ⟨hG.size, by rw [show upd L 12 14 = false from ls]; exact hn⟩, fun h => ⟨(f13 h).1, (f13 h).2.gr hg⟩, fun _ => rfl, s15, fun _ h => by have z := (f13 h).2.lt; omega⟩
  refine allOps_cons 13 ?_ ?_
  ·refine kF rfl ?_
   rintro L ac wx hL hd ⟨p1_12, p1_13, rfl, hG, f12, f13, s14, s15, g12_13⟩
   have ls : L 15 = false := by
    cases h : L 15 with
    | false => rfl
    | true => have := s15 h; rw [hL] at this; cases this
   refine wp_allocT rfl ?_
   intro w1 hn hg
   exact ⟨p1_12, wx.heap.size, rfl, hG.then hg, fun h => ⟨(f12 h).1, (f12 h).2.gr hg⟩, fun _ => ⟨hG.size, by rw [show upd L 13 15 = false from ls]; exact hn⟩, s14, fun _ => rfl, fun h _ => by have z := (f12 h).2.lt; omega⟩
  refine allOps_cons 14 ?_ ?_
  ·refine kF rfl ?_
   rintro L ac wx hL hd ⟨p1_12, p1_13, rfl, hG, f12, f13, s14, s15, g12_13⟩
   obtain ⟨e0, e1, e2, e3, e4, e5, e6, e7, e8, e9, e10, e11, e12, e13, e14, e15, e16, -⟩ := hd
   have lp : L 12 = true := e0 rfl
   obtain ⟨k12, z12⟩ := f12 lp
   have HL := z12; rw [hL] at HL
   refine wp_storeT rfl (sel_of (e0 rfl)) (sel_of (e1 rfl)) HL ?_
   intro w1 hn hgx
   exact ⟨p1_12, p1_13, rfl, hG.thenx hgx (.inr k12), fun _ => ⟨k12, hn⟩, fun h => ⟨(f13 h).1, (f13 h).2.grx hgx (Ne.symm (g12_13 lp h))⟩, fun _ => lp, s15, g12_13⟩
  refine allOps_cons 15 ?_ ?_
  ·refine kF rfl ?_
   rintro L ac wx hL hd ⟨p1_12, p1_13, rfl, hG, f12, f13, s14, s15, g12_13⟩
   obtain ⟨e0, e1, e2, e3, e4, e5, e6, e7, e8, e9, e10, e11, e12, e13, e14, e15, e16, e17, -⟩ := hd
   have lp : L 13 = true := e0 rfl
   obtain ⟨k13, z13⟩ := f13 lp
   have HL := z13; rw [hL] at HL
   refine wp_storeT rfl (sel_of (e0 rfl)) (sel_of (e1 rfl)) HL ?_
   intro w1 hn hgx
   exact ⟨p1_12, p1_13, rfl, hG.thenx hgx (.inr k13), fun h => ⟨(f12 h).1, (f12 h).2.grx hgx (g12_13 h lp)⟩, fun _ => ⟨k13, hn⟩, s14, fun _ => lp, g12_13⟩
  exact allOps_nil 16
 case fin =>
  rintro L ac wf1 hall ⟨p1_12, p1_13, rfl, hG1, f12, f13, s14, s15, g12_13⟩
  have l0 : L 0 = true := hall 0 (by decide)
  have l1 : L 1 = true := hall 1 (by decide)
  have l2 : L 2 = true := hall 2 (by decide)
  have l3 : L 3 = true := hall 3 (by decide)
  have l4 : L 4 = true := hall 4 (by decide)
  have l5 : L 5 = true := hall 5 (by decide)
  have l6 : L 6 = true := hall 6 (by decide)
  have l7 : L 7 = true := hall 7 (by decide)
  have l8 : L 8 = true := hall 8 (by decide)
  have l9 : L 9 = true := hall 9 (by decide)
  have l10 : L 10 = true := hall 10 (by decide)
  have l11 : L 11 = true := hall 11 (by decide)
  have l12 : L 12 = true := hall 12 (by decide)
  have l13 : L 13 = true := hall 13 (by decide)
  have l14 : L 14 = true := hall 14 (by decide)
  have l15 : L 15 = true := hall 15 (by decide)
  obtain ⟨kp1_12, zp1_12⟩ := f12 l12
  rw [l14] at zp1_12
  change AtA wf1 p1_12 (#[.int .u64 (iv (ofT wd a.tv)), .int .u64 (iv (ofT wd a.tm))]) 24 at zp1_12
  obtain ⟨kp1_13, zp1_13⟩ := f13 l13
  rw [l15] at zp1_13
  change AtA wf1 p1_13 (#[.int .u64 (iv (ofT wd b.tv)), .int .u64 (iv (ofT wd b.tm))]) 24 at zp1_13
  have np1_12_p1_13 := g12_13 l12 l13
  simp only [l0, l1, l2, l3, l4, l5, l6, l7, l8, l9, l10, l11, l12, l13, sel_t]
  have np_p1_12 : p ≠ p1_12 := Nat.ne_of_lt (Nat.lt_of_lt_of_le (HA).lt kp1_12)
  have np_p1_13 : p ≠ p1_13 := Nat.ne_of_lt (Nat.lt_of_lt_of_le (HA).lt kp1_13)
  have nq_p1_12 : q ≠ p1_12 := Nat.ne_of_lt (Nat.lt_of_lt_of_le (HB).lt kp1_12)
  have nq_p1_13 : q ≠ p1_13 := Nat.ne_of_lt (Nat.lt_of_lt_of_le (HB).lt kp1_13)
  have nPW_p1_12 : PW ≠ p1_12 := Nat.ne_of_lt (Nat.lt_of_lt_of_le (HW).lt kp1_12)
  have nPW_p1_13 : PW ≠ p1_13 := Nat.ne_of_lt (Nat.lt_of_lt_of_le (HW).lt kp1_13)
  have frp1_12 := Nat.le_trans (GrL.refl [p, q] w).size kp1_12
  have frp1_13 := Nat.le_trans (GrL.refl [p, q] w).size kp1_13
  have hp_c1 := (HA).grl hG1 n0
  have hq_c1 := (HB).grl hG1 n0
  have hPW_c1 := (HW).grl hG1 n0
  have hF_c1 := (GrL.refl [p, q] w).app hG1 (r0 )
  clear l0 l1 l2 l3 l4 l5 l6 l7 l8 l9 l10 l11 l12 l13 l14 l15 hall f12 f13 s14 s15 g12_13
  go_upto_region 2 with fail
  refine rG ?_
  refine sF rfl ?_
  refine wp_pT (v0 := .int .u64 (iv (ofT wd a.tv))) (v1 := .int .u64 (iv (ofT wd a.tm))) rfl rfl (zp1_12) rfl rfl ?_
  simp only [Act.put, zs, z0, z1]
  refine sF rfl ?_
  refine wp_pT (v0 := .int .u64 (iv (ofT wd b.tv))) (v1 := .int .u64 (iv (ofT wd b.tm))) rfl rfl (zp1_13) rfl rfl ?_
  simp only [Act.put, zs, z0, z1]
  refine sF rfl ?_
  refine wp_call2 rfl rfl rfl (by go_simp) ?_
  refine ((fun w => cv (Tn.and_any (ofT wd a.tv) (ofT wd a.tm) (ofT wd b.tv) (ofT wd b.tm) w)) _).mono ?_
  rintro e wk2 ⟨rfl, hk2⟩
  refine ⟨_, rfl, ?_⟩
  have hp_2 := (hp_c1).gr hk2
  have hq_2 := (hq_c1).gr hk2
  have hPW_2 := (hPW_c1).gr hk2
  have hp1_12_2 := (zp1_12).gr hk2
  have hp1_13_2 := (zp1_13).gr hk2
  have hF_2 := (hF_c1).then hk2
  simp only [Act.put, zs, z0, z1]
  refine sF rfl ?_
  refine wp_call1 rfl rfl (by go_simp) ?_
  refine ((fun w => cv (Tn.cst_gr (0#64) w)) _).mono ?_
  rintro e wk3 ⟨rfl, hk3⟩
  refine ⟨_, rfl, ?_⟩
  have hp_3 := (hp_2).gr hk3
  have hq_3 := (hq_2).gr hk3
  have hPW_3 := (hPW_2).gr hk3
  have hp1_12_3 := (hp1_12_2).gr hk3
  have hp1_13_3 := (hp1_13_2).gr hk3
  have hF_3 := (hF_2).then hk3
  simp only [Act.put, zs, z0, z1]
  refine sF rfl ?_
  refine wp_eqT (r := false) rfl rfl rfl hz ?_
  simp only [Act.put, zs, z0, z1]
  refine sF rfl ?_
  refine wA (v := .bool false) rfl rfl ?_
  simp only [Act.put, zs, z0, z1]
  refine s_end ?_
  go_upto_region 4 with fail
  refine rG ?_
  refine sF rfl ?_
  refine wp_pT (v0 := .int .u64 (iv (ofT wd a.tv))) (v1 := .int .u64 (iv (ofT wd a.tm))) rfl rfl (hp1_12_3) rfl rfl ?_
  simp only [Act.put, zs, z0, z1]
  refine sF rfl ?_
  refine wp_call1 rfl rfl (by go_simp) ?_
  refine ((fun w => k_oneBit (ofT wd a.tv) (ofT wd a.tm) w) _).mono ?_
  rintro e wk4 ⟨he4, hk4⟩
  obtain rfl : e = .returned (.bool false) := he4.trans (by rw [ho1])
  clear he4
  refine ⟨_, rfl, ?_⟩
  have hp_4 := (hp_3).gr hk4
  have hq_4 := (hq_3).gr hk4
  have hPW_4 := (hPW_3).gr hk4
  have hp1_12_4 := (hp1_12_3).gr hk4
  have hp1_13_4 := (hp1_13_3).gr hk4
  have hF_4 := (hF_3).then hk4
  simp only [Act.put, zs, z0, z1]
  refine sF rfl ?_
  refine wA (v := .bool false) rfl rfl ?_
  simp only [Act.put, zs, z0, z1]
  refine s_end ?_
  go_upto_region 6 with fail
  refine rG ?_
  refine sF rfl ?_
  refine wp_pT (v0 := .int .u64 (iv (ofT wd b.tv))) (v1 := .int .u64 (iv (ofT wd b.tm))) rfl rfl (hp1_13_4) rfl rfl ?_
  simp only [Act.put, zs, z0, z1]
  refine sF rfl ?_
  refine wp_call1 rfl rfl (by go_simp) ?_
  refine ((fun w => k_oneBit (ofT wd b.tv) (ofT wd b.tm) w) _).mono ?_
  rintro e wk5 ⟨he5, hk5⟩
  obtain rfl : e = .returned (.bool true) := he5.trans (by rw [ho2])
  clear he5
  refine ⟨_, rfl, ?_⟩
  have hp_5 := (hp_4).gr hk5
  have hq_5 := (hq_4).gr hk5
  have hPW_5 := (hPW_4).gr hk5
  have hp1_12_5 := (hp1_12_4).gr hk5
  have hp1_13_5 := (hp1_13_4).gr hk5
  have hF_5 := (hF_4).then hk5
  simp only [Act.put, zs, z0, z1]
  refine sF rfl ?_
  refine wA (v := .bool true) rfl rfl ?_
  simp only [Act.put, zs, z0, z1]
  refine s_end ?_
  go_upto_region 7 with fail
  refine wp_region_inv (by kernel_rfl) (fun L ac wx =>  ac = ⟨(.pointer (some ⟨p, 0, none⟩) :: .pointer (some ⟨q, 0, none⟩) :: .pointer (some ⟨PW, 0, none⟩) :: undef :: undef :: sel (L 7) (.bool false) (.bool false) :: .pointer (some ⟨p1_12, 0, none⟩) :: .pointer (some ⟨p1_13, 0, none⟩) :: .pointer (some ⟨p, 0, none⟩) :: .pointer (some ⟨p, 0, none⟩) :: .pointer (some ⟨p, 0, none⟩) :: .agg #[.int .u64 (iv a.tv), .int .u64 (iv a.tm)] :: .bool wd :: .agg #[.int .u64 (iv (ofT wd a.tv)), .int .u64 (iv (ofT wd a.tm))] :: .pointer (some ⟨q, 0, none⟩) :: .pointer (some ⟨q, 0, none⟩) :: .pointer (some ⟨q, 0, none⟩) :: .agg #[.int .u64 (iv b.tv), .int .u64 (iv b.tm)] :: .bool wd :: .agg #[.int .u64 (iv (ofT wd b.tv)), .int .u64 (iv (ofT wd b.tm))] :: .bool false :: .agg #[.int .u64 (iv (ofT wd a.tv)), .int .u64 (iv (ofT wd a.tm))] :: .agg #[.int .u64 (iv (ofT wd b.tv)), .int .u64 (iv (ofT wd b.tm))] :: .agg #[.int .u64 (iv ((ofT wd a.tv) &&& (ofT wd b.tv))), .int .u64 (iv (Tn.andM (ofT wd a.tv) (ofT wd a.tm) (ofT wd b.tv) (ofT wd b.tm)))] :: .agg #[.int .u64 (iv (0#64)), .int .u64 (iv 0#64)] :: .bool false :: .bool false :: .agg #[.int .u64 (iv (ofT wd a.tv)), .int .u64 (iv (ofT wd a.tm))] :: .bool false :: undef :: undef :: undef :: undef :: undef :: undef :: undef :: .bool true :: .agg #[.int .u64 (iv (ofT wd b.tv)), .int .u64 (iv (ofT wd b.tm))] :: .bool true :: sel (L 0) (.pointer (some ⟨p, 0, none⟩)) (undef) :: sel (L 1) (.pointer (some ⟨p, 0, none⟩)) (undef) :: sel (L 2) (.pointer (some ⟨p, 0, none⟩)) (undef) :: sel (L 3) (.pointer (some ⟨p1_13, 0, none⟩)) (undef) :: sel (L 4) (.int .u64 (iv (ofT wd b.tv))) (undef) :: sel (L 5) (.agg #[.int .u64 (iv (ofT wd b.tv)), .int .u64 (iv (~~~(ofT wd b.tv)))]) (undef) :: sel (L 6) (.bool false) (undef) :: [] : List Value).toArray, []⟩ ∧ GrL [p] wk5 wx ∧ AtA wx p (sel (L 6) (bv { a with tv := Tn.mtV a.tv a.tm (ofT wd b.tv) (~~~(ofT wd b.tv)), tm := Tn.mtM a.tv a.tm (ofT wd b.tv) (~~~(ofT wd b.tv)) }) (bv a)) 30) (by kernel_rfl) ?h0 ?step ?fin
  case h0 => exact ⟨rfl, GrL.of (Gr.drew (Gr.refl _)), (hp_5).drew⟩
  case step =>
   refine allOps_cons 0 ?_ ?_
   ·refine kF rfl ?_
    rintro L ac wx hL hd ⟨rfl, hG, Ap⟩
    refine wM (v := .pointer (some ⟨p, 0, none⟩)) rfl rfl ?_
    exact ⟨rfl, hG, Ap⟩
   refine allOps_cons 1 ?_ ?_
   ·refine kF rfl ?_
    rintro L ac wx hL hd ⟨rfl, hG, Ap⟩
    obtain ⟨e0, -⟩ := hd
    refine wp_nil (r := ⟨p, 0, none⟩) rfl (sel_of (e0 rfl)) ?_
    exact ⟨rfl, hG, Ap⟩
   refine allOps_cons 2 ?_ ?_
   ·refine kF rfl ?_
    rintro L ac wx hL hd ⟨rfl, hG, Ap⟩
    obtain ⟨e0, -⟩ := hd
    refine wp_fa0 rfl (sel_of (e0 rfl)) ?_
    exact ⟨rfl, hG, Ap⟩
   refine allOps_cons 3 ?_ ?_
   ·refine kF rfl ?_
    rintro L ac wx hL hd ⟨rfl, hG, Ap⟩
    refine wp_fT0 rfl rfl ?_
    exact ⟨rfl, hG, Ap⟩
   refine allOps_cons 4 ?_ ?_
   ·refine kF rfl ?_
    rintro L ac wx hL hd ⟨rfl, hG, Ap⟩
    obtain ⟨e0, -⟩ := hd
    have HL := (hp1_13_5).grl hG (n1 (Ne.symm np_p1_13))
    refine wp_ld_uint64 (v := .int .u64 (iv (ofT wd b.tv))) rfl (sel_of (e0 rfl)) (HL) rfl ?_
    exact ⟨rfl, hG, Ap⟩
   refine allOps_cons 5 ?_ ?_
   ·refine kF rfl ?_
    rintro L ac wx hL hd ⟨rfl, hG, Ap⟩
    obtain ⟨e0, -⟩ := hd
    refine wp_call1 rfl (sel_of (e0 rfl)) (by go_simp) ?_
    refine ((fun w => k_ones (ofT wd b.tv) w) _).mono ?_
    rintro e w1 ⟨rfl, hg⟩
    refine ⟨_, rfl, ?_⟩
    exact ⟨rfl, hG.then hg, Ap.gr hg⟩
   refine allOps_cons 6 ?_ ?_
   ·refine kF rfl ?_
    rintro L ac wx hL hd ⟨rfl, hG, Ap⟩
    obtain ⟨e0, e1, e2, -⟩ := hd
    have HL := Ap; rw [hL] at HL
    refine wp_call2 rfl (sel_of (e0 rfl)) (sel_of (e1 rfl)) (by go_simp) ?_
    refine (k_know a (ofT wd b.tv) (~~~(ofT wd b.tv)) false hk p _ HL).mono ?_
    rintro e w1 ⟨rfl, hn, hgx⟩
    refine ⟨_, rfl, ?_⟩
    exact ⟨rfl, hG.thenx hgx (.inl m1), hn⟩
   refine allOps_cons 7 ?_ ?_
   ·refine kF rfl ?_
    rintro L ac wx hL hd ⟨rfl, hG, Ap⟩
    obtain ⟨e0, e1, e2, e3, e4, e5, e6, e7, e8, -⟩ := hd
    refine wA (v := .bool false) rfl (sel_of (e0 rfl)) ?_
    exact ⟨rfl, hG, Ap⟩
   exact allOps_nil 8
  case fin =>
   rintro L ac wf6 hall ⟨rfl, hG6, B6p⟩
   have l0 : L 0 = true := hall 0 (by decide)
   have l1 : L 1 = true := hall 1 (by decide)
   have l2 : L 2 = true := hall 2 (by decide)
   have l3 : L 3 = true := hall 3 (by decide)
   have l4 : L 4 = true := hall 4 (by decide)
   have l5 : L 5 = true := hall 5 (by decide)
   have l6 : L 6 = true := hall 6 (by decide)
   have l7 : L 7 = true := hall 7 (by decide)
   rw [l6] at B6p
   change AtA wf6 p (bv { a with tv := Tn.mtV a.tv a.tm (ofT wd b.tv) (~~~(ofT wd b.tv)), tm := Tn.mtM a.tv a.tm (ofT wd b.tv) (~~~(ofT wd b.tv)) }) 30 at B6p
   simp only [l0, l1, l2, l3, l4, l5, l6, l7, sel_t]
   have hq_c6 := (hq_5).grl hG6 (n1 (Ne.symm hpq))
   have hPW_c6 := (hPW_5).grl hG6 (n1 (Ne.symm npPW))
   have hp1_12_c6 := (hp1_12_5).grl hG6 (n1 (Ne.symm np_p1_12))
   have hp1_13_c6 := (hp1_13_5).grl hG6 (n1 (Ne.symm np_p1_13))
   have hF_c6 := (hF_5).app hG6 (r1 (.inl m21))
   clear l0 l1 l2 l3 l4 l5 l6 l7 hall
   go_wp2
   go_ret
   exact ⟨rfl, hF_c6⟩
set_option maxHeartbeats 16000000 in
theorem set_2t (wd : Bool) (a b : Bd) (p q : Nat) (w : World) (hpq : p ≠ q) (HA : AtA w p (bv a) 30) (HB : AtA w q (bv b) 30) (PW : Nat) (npPW : p ≠ PW) (nqPW : q ≠ PW) (HW : AtA w PW #[.bool wd] 4) (hz : (iv ((ofT wd a.tv) &&& (ofT wd b.tv)) == iv 0#64 && iv (Tn.andM (ofT wd a.tv) (ofT wd a.tm) (ofT wd b.tv) (ofT wd b.tm)) == iv 0#64) = false) (ho1 : oneM (ofT wd a.tv) (ofT wd a.tm) = false) (ho2 : oneM (ofT wd b.tv) (ofT wd b.tm) = true) (hk : Tn.meetX a.tv a.tm (ofT wd b.tv) (~~~(ofT wd b.tv)) = true) : Calls Tryz.prog 267 #[.pointer (some ⟨p, 0, none⟩), .pointer (some ⟨q, 0, none⟩), .pointer (some ⟨PW, 0, none⟩)] w fun e w' => e = .returned (.bool true) ∧ AtA w' p (bv { a with tv := Tn.mtV a.tv a.tm (ofT wd b.tv) (~~~(ofT wd b.tv)), tm := Tn.mtM a.tv a.tm (ofT wd b.tv) (~~~(ofT wd b.tv)) }) 30 ∧ AtA w' q (bv b) 30 ∧ GrL [p, q] w w' := by
 go_enter Tryz.func267, Tryz.ntmps267
 go_upto_region 0 with fail
 refine rG ?_
 refine sF rfl ?_
 refine wA (v := .bool false) rfl rfl ?_
 simp only [Act.put, zs, z0, z1]
 refine s_end ?_
 go_upto_region 1 with fail
 refine wp_region_inv (by kernel_rfl) (fun L ac wx => ∃ (p1_12 : Nat) (p1_13 : Nat), ac = ⟨(.pointer (some ⟨p, 0, none⟩) :: .pointer (some ⟨q, 0, none⟩) :: .pointer (some ⟨PW, 0, none⟩) :: undef :: undef :: .bool false :: sel (L 12) (.pointer (some ⟨p1_12, 0, none⟩)) (undef) :: sel (L 13) (.pointer (some ⟨p1_13, 0, none⟩)) (undef) :: sel (L 0) (.pointer (some ⟨p, 0, none⟩)) (undef) :: sel (L 1) (.pointer (some ⟨p, 0, none⟩)) (undef) :: sel (L 2) (.pointer (some ⟨p, 0, none⟩)) (undef) :: sel (L 3) (.agg #[.int .u64 (iv a.tv), .int .u64 (iv a.tm)]) (undef) :: sel (L 4) (.bool wd) (undef) :: sel (L 5) (.agg #[.int .u64 (iv (ofT wd a.tv)), .int .u64 (iv (ofT wd a.tm))]) (undef) :: sel (L 6) (.pointer (some ⟨q, 0, none⟩)) (undef) :: sel (L 7) (.pointer (some ⟨q, 0, none⟩)) (undef) :: sel (L 8) (.pointer (some ⟨q, 0, none⟩)) (undef) :: sel (L 9) (.agg #[.int .u64 (iv b.tv), .int .u64 (iv b.tm)]) (undef) :: sel (L 10) (.bool wd) (undef) :: sel (L 11) (.agg #[.int .u64 (iv (ofT wd b.tv)), .int .u64 (iv (ofT wd b.tm))]) (undef) :: undef :: undef :: undef :: undef :: undef :: undef :: undef :: undef :: undef :: undef :: undef :: undef :: undef :: undef :: undef :: undef :: undef :: undef :: undef :: undef :: undef :: undef :: undef :: undef :: undef :: undef :: [] : List Value).toArray, []⟩ ∧ GrL [] w wx ∧ (L 12 = true → w.heap.size ≤ p1_12 ∧ AtA wx p1_12 (sel (L 14) (#[.int .u64 (iv (ofT wd a.tv)), .int .u64 (iv (ofT wd a.tm))]) (#[.int .u64 0, .int .u64 0])) 24) ∧ (L 13 = true → w.heap.size ≤ p1_13 ∧ AtA wx p1_13 (sel (L 15) (#[.int .u64 (iv (ofT wd b.tv)), .int .u64 (iv (ofT wd b.tm))]) (#[.int .u64 0, .int .u64 0])) 24) ∧ (L 14 = true → L 12 = true) ∧ (L 15 = true → L 13 = true) ∧ (L 12 = true → L 13 = true → p1_12 ≠ p1_13)) (by kernel_rfl) ?h0 ?step ?fin
 case h0 => exact ⟨0, 0, rfl, GrL.of (Gr.drew (Gr.refl _)), (fun h => by cases h), (fun h => by cases h), (fun h => by cases h), (fun h => by cases h), (fun h => by cases h)⟩
 case step =>
  refine allOps_cons 0 ?_ ?_
  ·refine kF rfl ?_
   rintro L ac wx hL hd ⟨p1_12, p1_13, rfl, hG, f12, f13, s14, s15, g12_13⟩
   refine wM (v := .pointer (some ⟨p, 0, none⟩)) rfl rfl ?_
   exact ⟨p1_12, p1_13, rfl, hG, f12, f13, s14, s15, g12_13⟩
  refine allOps_cons 1 ?_ ?_
  ·refine kF rfl ?_
   rintro L ac wx hL hd ⟨p1_12, p1_13, rfl, hG, f12, f13, s14, s15, g12_13⟩
   obtain ⟨e0, -⟩ := hd
   refine wp_nil (r := ⟨p, 0, none⟩) rfl (sel_of (e0 rfl)) ?_
   exact ⟨p1_12, p1_13, rfl, hG, f12, f13, s14, s15, g12_13⟩
  refine allOps_cons 2 ?_ ?_
  ·refine kF rfl ?_
   rintro L ac wx hL hd ⟨p1_12, p1_13, rfl, hG, f12, f13, s14, s15, g12_13⟩
   obtain ⟨e0, -⟩ := hd
   refine wp_fa0 rfl (sel_of (e0 rfl)) ?_
   exact ⟨p1_12, p1_13, rfl, hG, f12, f13, s14, s15, g12_13⟩
  refine allOps_cons 3 ?_ ?_
  ·refine kF rfl ?_
   rintro L ac wx hL hd ⟨p1_12, p1_13, rfl, hG, f12, f13, s14, s15, g12_13⟩
   obtain ⟨e0, -⟩ := hd
   have HL := (HA).grl hG n0
   refine wp_pT (v0 := .int .u64 (iv a.tv)) (v1 := .int .u64 (iv a.tm)) rfl (sel_of (e0 rfl)) (HL) rfl rfl ?_
   exact ⟨p1_12, p1_13, rfl, hG, f12, f13, s14, s15, g12_13⟩
  refine allOps_cons 4 ?_ ?_
  ·refine kF rfl ?_
   rintro L ac wx hL hd ⟨p1_12, p1_13, rfl, hG, f12, f13, s14, s15, g12_13⟩
   have HL := (HW).grl hG n0
   refine wp_ld_bool (v := .bool wd) rfl rfl (HL) rfl ?_
   exact ⟨p1_12, p1_13, rfl, hG, f12, f13, s14, s15, g12_13⟩
  refine allOps_cons 5 ?_ ?_
  ·refine kF rfl ?_
   rintro L ac wx hL hd ⟨p1_12, p1_13, rfl, hG, f12, f13, s14, s15, g12_13⟩
   obtain ⟨e0, e1, -⟩ := hd
   refine wp_call2 rfl (sel_of (e0 rfl)) (sel_of (e1 rfl)) (by go_simp) ?_
   refine ((fun w => k_bitsOf wd a.tv a.tm w) _).mono ?_
   rintro e w1 ⟨rfl, hg⟩
   refine ⟨_, rfl, ?_⟩
   exact ⟨p1_12, p1_13, rfl, hG.then hg, fun h => ⟨(f12 h).1, (f12 h).2.gr hg⟩, fun h => ⟨(f13 h).1, (f13 h).2.gr hg⟩, s14, s15, g12_13⟩
  refine allOps_cons 6 ?_ ?_
  ·refine kF rfl ?_
   rintro L ac wx hL hd ⟨p1_12, p1_13, rfl, hG, f12, f13, s14, s15, g12_13⟩
   refine wM (v := .pointer (some ⟨q, 0, none⟩)) rfl rfl ?_
   exact ⟨p1_12, p1_13, rfl, hG, f12, f13, s14, s15, g12_13⟩
  refine allOps_cons 7 ?_ ?_
  ·refine kF rfl ?_
   rintro L ac wx hL hd ⟨p1_12, p1_13, rfl, hG, f12, f13, s14, s15, g12_13⟩
   obtain ⟨e0, -⟩ := hd
   refine wp_nil (r := ⟨q, 0, none⟩) rfl (sel_of (e0 rfl)) ?_
   exact ⟨p1_12, p1_13, rfl, hG, f12, f13, s14, s15, g12_13⟩
  refine allOps_cons 8 ?_ ?_
  ·refine kF rfl ?_
   rintro L ac wx hL hd ⟨p1_12, p1_13, rfl, hG, f12, f13, s14, s15, g12_13⟩
   obtain ⟨e0, -⟩ := hd
   refine wp_fa0 rfl (sel_of (e0 rfl)) ?_
   exact ⟨p1_12, p1_13, rfl, hG, f12, f13, s14, s15, g12_13⟩
  refine allOps_cons 9 ?_ ?_
  ·refine kF rfl ?_
   rintro L ac wx hL hd ⟨p1_12, p1_13, rfl, hG, f12, f13, s14, s15, g12_13⟩
   obtain ⟨e0, -⟩ := hd
   have HL := (HB).grl hG n0
   refine wp_pT (v0 := .int .u64 (iv b.tv)) (v1 := .int .u64 (iv b.tm)) rfl (sel_of (e0 rfl)) (HL) rfl rfl ?_
   exact ⟨p1_12, p1_13, rfl, hG, f12, f13, s14, s15, g12_13⟩
  refine allOps_cons 10 ?_ ?_
  ·refine kF rfl ?_
   rintro L ac wx hL hd ⟨p1_12, p1_13, rfl, hG, f12, f13, s14, s15, g12_13⟩
   have HL := (HW).grl hG n0
   refine wp_ld_bool (v := .bool wd) rfl rfl (HL) rfl ?_
   exact ⟨p1_12, p1_13, rfl, hG, f12, f13, s14, s15, g12_13⟩
  refine allOps_cons 11 ?_ ?_
  ·refine kF rfl ?_
   rintro L ac wx hL hd ⟨p1_12, p1_13, rfl, hG, f12, f13, s14, s15, g12_13⟩
   obtain ⟨e0, e1, e2, -⟩ := hd
   refine wp_call2 rfl (sel_of (e0 rfl)) (sel_of (e1 rfl)) (by go_simp) ?_
   refine ((fun w => k_bitsOf wd b.tv b.tm w) _).mono ?_
   rintro e w1 ⟨rfl, hg⟩
   refine ⟨_, rfl, ?_⟩
   exact ⟨p1_12, p1_13, rfl, hG.then hg, fun h => ⟨(f12 h).1, (f12 h).2.gr hg⟩, fun h => ⟨(f13 h).1, (f13 h).2.gr hg⟩, s14, s15, g12_13⟩
  refine allOps_cons 12 ?_ ?_
  ·refine kF rfl ?_
   rintro L ac wx hL hd ⟨p1_12, p1_13, rfl, hG, f12, f13, s14, s15, g12_13⟩
   have ls : L 14 = false := by
    cases h : L 14 with
    | false => rfl
    | true => have := s14 h; rw [hL] at this; cases this
   refine wp_allocT rfl ?_
   intro w1 hn hg
   exact ⟨wx.heap.size, p1_13, rfl, hG.then hg, fun _ => ⟨hG.size, by rw [show upd L 12 14 = false from ls]; exact hn⟩, fun h => ⟨(f13 h).1, (f13 h).2.gr hg⟩, fun _ => rfl, s15, fun _ h => by have z := (f13 h).2.lt; omega⟩
  refine allOps_cons 13 ?_ ?_
  ·refine kF rfl ?_
   rintro L ac wx hL hd ⟨p1_12, p1_13, rfl, hG, f12, f13, s14, s15, g12_13⟩
   have ls : L 15 = false := by
    cases h : L 15 with
    | false => rfl
    | true => have := s15 h; rw [hL] at this; cases this
   refine wp_allocT rfl ?_
   intro w1 hn hg
   exact ⟨p1_12, wx.heap.size, rfl, hG.then hg, fun h => ⟨(f12 h).1, (f12 h).2.gr hg⟩, fun _ => ⟨hG.size, by rw [show upd L 13 15 = false from ls]; exact hn⟩, s14, fun _ => rfl, fun h _ => by have z := (f12 h).2.lt; omega⟩
  refine allOps_cons 14 ?_ ?_
  ·refine kF rfl ?_
   rintro L ac wx hL hd ⟨p1_12, p1_13, rfl, hG, f12, f13, s14, s15, g12_13⟩
   obtain ⟨e0, e1, e2, e3, e4, e5, e6, e7, e8, e9, e10, e11, e12, e13, e14, e15, e16, -⟩ := hd
   have lp : L 12 = true := e0 rfl
   obtain ⟨k12, z12⟩ := f12 lp
   have HL := z12; rw [hL] at HL
   refine wp_storeT rfl (sel_of (e0 rfl)) (sel_of (e1 rfl)) HL ?_
   intro w1 hn hgx
   exact ⟨p1_12, p1_13, rfl, hG.thenx hgx (.inr k12), fun _ => ⟨k12, hn⟩, fun h => ⟨(f13 h).1, (f13 h).2.grx hgx (Ne.symm (g12_13 lp h))⟩, fun _ => lp, s15, g12_13⟩
  refine allOps_cons 15 ?_ ?_
  ·refine kF rfl ?_
   rintro L ac wx hL hd ⟨p1_12, p1_13, rfl, hG, f12, f13, s14, s15, g12_13⟩
   obtain ⟨e0, e1, e2, e3, e4, e5, e6, e7, e8, e9, e10, e11, e12, e13, e14, e15, e16, e17, -⟩ := hd
   have lp : L 13 = true := e0 rfl
   obtain ⟨k13, z13⟩ := f13 lp
   have HL := z13; rw [hL] at HL
   refine wp_storeT rfl (sel_of (e0 rfl)) (sel_of (e1 rfl)) HL ?_
   intro w1 hn hgx
   exact ⟨p1_12, p1_13, rfl, hG.thenx hgx (.inr k13), fun h => ⟨(f12 h).1, (f12 h).2.grx hgx (g12_13 h lp)⟩, fun _ => ⟨k13, hn⟩, s14, fun _ => lp, g12_13⟩
  exact allOps_nil 16
 case fin =>
  rintro L ac wf1 hall ⟨p1_12, p1_13, rfl, hG1, f12, f13, s14, s15, g12_13⟩
  have l0 : L 0 = true := hall 0 (by decide)
  have l1 : L 1 = true := hall 1 (by decide)
  have l2 : L 2 = true := hall 2 (by decide)
  have l3 : L 3 = true := hall 3 (by decide)
  have l4 : L 4 = true := hall 4 (by decide)
  have l5 : L 5 = true := hall 5 (by decide)
  have l6 : L 6 = true := hall 6 (by decide)
  have l7 : L 7 = true := hall 7 (by decide)
  have l8 : L 8 = true := hall 8 (by decide)
  have l9 : L 9 = true := hall 9 (by decide)
  have l10 : L 10 = true := hall 10 (by decide)
  have l11 : L 11 = true := hall 11 (by decide)
  have l12 : L 12 = true := hall 12 (by decide)
  have l13 : L 13 = true := hall 13 (by decide)
  have l14 : L 14 = true := hall 14 (by decide)
  have l15 : L 15 = true := hall 15 (by decide)
  obtain ⟨kp1_12, zp1_12⟩ := f12 l12
  rw [l14] at zp1_12
  change AtA wf1 p1_12 (#[.int .u64 (iv (ofT wd a.tv)), .int .u64 (iv (ofT wd a.tm))]) 24 at zp1_12
  obtain ⟨kp1_13, zp1_13⟩ := f13 l13
  rw [l15] at zp1_13
  change AtA wf1 p1_13 (#[.int .u64 (iv (ofT wd b.tv)), .int .u64 (iv (ofT wd b.tm))]) 24 at zp1_13
  have np1_12_p1_13 := g12_13 l12 l13
  simp only [l0, l1, l2, l3, l4, l5, l6, l7, l8, l9, l10, l11, l12, l13, sel_t]
  have np_p1_12 : p ≠ p1_12 := Nat.ne_of_lt (Nat.lt_of_lt_of_le (HA).lt kp1_12)
  have np_p1_13 : p ≠ p1_13 := Nat.ne_of_lt (Nat.lt_of_lt_of_le (HA).lt kp1_13)
  have nq_p1_12 : q ≠ p1_12 := Nat.ne_of_lt (Nat.lt_of_lt_of_le (HB).lt kp1_12)
  have nq_p1_13 : q ≠ p1_13 := Nat.ne_of_lt (Nat.lt_of_lt_of_le (HB).lt kp1_13)
  have nPW_p1_12 : PW ≠ p1_12 := Nat.ne_of_lt (Nat.lt_of_lt_of_le (HW).lt kp1_12)
  have nPW_p1_13 : PW ≠ p1_13 := Nat.ne_of_lt (Nat.lt_of_lt_of_le (HW).lt kp1_13)
  have frp1_12 := Nat.le_trans (GrL.refl [p, q] w).size kp1_12
  have frp1_13 := Nat.le_trans (GrL.refl [p, q] w).size kp1_13
  have hp_c1 := (HA).grl hG1 n0
  have hq_c1 := (HB).grl hG1 n0
  have hPW_c1 := (HW).grl hG1 n0
  have hF_c1 := (GrL.refl [p, q] w).app hG1 (r0 )
  clear l0 l1 l2 l3 l4 l5 l6 l7 l8 l9 l10 l11 l12 l13 l14 l15 hall f12 f13 s14 s15 g12_13
  go_upto_region 2 with fail
  refine rG ?_
  refine sF rfl ?_
  refine wp_pT (v0 := .int .u64 (iv (ofT wd a.tv))) (v1 := .int .u64 (iv (ofT wd a.tm))) rfl rfl (zp1_12) rfl rfl ?_
  simp only [Act.put, zs, z0, z1]
  refine sF rfl ?_
  refine wp_pT (v0 := .int .u64 (iv (ofT wd b.tv))) (v1 := .int .u64 (iv (ofT wd b.tm))) rfl rfl (zp1_13) rfl rfl ?_
  simp only [Act.put, zs, z0, z1]
  refine sF rfl ?_
  refine wp_call2 rfl rfl rfl (by go_simp) ?_
  refine ((fun w => cv (Tn.and_any (ofT wd a.tv) (ofT wd a.tm) (ofT wd b.tv) (ofT wd b.tm) w)) _).mono ?_
  rintro e wk2 ⟨rfl, hk2⟩
  refine ⟨_, rfl, ?_⟩
  have hp_2 := (hp_c1).gr hk2
  have hq_2 := (hq_c1).gr hk2
  have hPW_2 := (hPW_c1).gr hk2
  have hp1_12_2 := (zp1_12).gr hk2
  have hp1_13_2 := (zp1_13).gr hk2
  have hF_2 := (hF_c1).then hk2
  simp only [Act.put, zs, z0, z1]
  refine sF rfl ?_
  refine wp_call1 rfl rfl (by go_simp) ?_
  refine ((fun w => cv (Tn.cst_gr (0#64) w)) _).mono ?_
  rintro e wk3 ⟨rfl, hk3⟩
  refine ⟨_, rfl, ?_⟩
  have hp_3 := (hp_2).gr hk3
  have hq_3 := (hq_2).gr hk3
  have hPW_3 := (hPW_2).gr hk3
  have hp1_12_3 := (hp1_12_2).gr hk3
  have hp1_13_3 := (hp1_13_2).gr hk3
  have hF_3 := (hF_2).then hk3
  simp only [Act.put, zs, z0, z1]
  refine sF rfl ?_
  refine wp_eqT (r := false) rfl rfl rfl hz ?_
  simp only [Act.put, zs, z0, z1]
  refine sF rfl ?_
  refine wA (v := .bool false) rfl rfl ?_
  simp only [Act.put, zs, z0, z1]
  refine s_end ?_
  go_upto_region 4 with fail
  refine rG ?_
  refine sF rfl ?_
  refine wp_pT (v0 := .int .u64 (iv (ofT wd a.tv))) (v1 := .int .u64 (iv (ofT wd a.tm))) rfl rfl (hp1_12_3) rfl rfl ?_
  simp only [Act.put, zs, z0, z1]
  refine sF rfl ?_
  refine wp_call1 rfl rfl (by go_simp) ?_
  refine ((fun w => k_oneBit (ofT wd a.tv) (ofT wd a.tm) w) _).mono ?_
  rintro e wk4 ⟨he4, hk4⟩
  obtain rfl : e = .returned (.bool false) := he4.trans (by rw [ho1])
  clear he4
  refine ⟨_, rfl, ?_⟩
  have hp_4 := (hp_3).gr hk4
  have hq_4 := (hq_3).gr hk4
  have hPW_4 := (hPW_3).gr hk4
  have hp1_12_4 := (hp1_12_3).gr hk4
  have hp1_13_4 := (hp1_13_3).gr hk4
  have hF_4 := (hF_3).then hk4
  simp only [Act.put, zs, z0, z1]
  refine sF rfl ?_
  refine wA (v := .bool false) rfl rfl ?_
  simp only [Act.put, zs, z0, z1]
  refine s_end ?_
  go_upto_region 6 with fail
  refine rG ?_
  refine sF rfl ?_
  refine wp_pT (v0 := .int .u64 (iv (ofT wd b.tv))) (v1 := .int .u64 (iv (ofT wd b.tm))) rfl rfl (hp1_13_4) rfl rfl ?_
  simp only [Act.put, zs, z0, z1]
  refine sF rfl ?_
  refine wp_call1 rfl rfl (by go_simp) ?_
  refine ((fun w => k_oneBit (ofT wd b.tv) (ofT wd b.tm) w) _).mono ?_
  rintro e wk5 ⟨he5, hk5⟩
  obtain rfl : e = .returned (.bool true) := he5.trans (by rw [ho2])
  clear he5
  refine ⟨_, rfl, ?_⟩
  have hp_5 := (hp_4).gr hk5
  have hq_5 := (hq_4).gr hk5
  have hPW_5 := (hPW_4).gr hk5
  have hp1_12_5 := (hp1_12_4).gr hk5
  have hp1_13_5 := (hp1_13_4).gr hk5
  have hF_5 := (hF_4).then hk5
  simp only [Act.put, zs, z0, z1]
  refine sF rfl ?_
  refine wA (v := .bool true) rfl rfl ?_
  simp only [Act.put, zs, z0, z1]
  refine s_end ?_
  go_upto_region 7 with fail
  refine wp_region_inv (by kernel_rfl) (fun L ac wx =>  ac = ⟨(.pointer (some ⟨p, 0, none⟩) :: .pointer (some ⟨q, 0, none⟩) :: .pointer (some ⟨PW, 0, none⟩) :: undef :: undef :: sel (L 7) (.bool true) (.bool false) :: .pointer (some ⟨p1_12, 0, none⟩) :: .pointer (some ⟨p1_13, 0, none⟩) :: .pointer (some ⟨p, 0, none⟩) :: .pointer (some ⟨p, 0, none⟩) :: .pointer (some ⟨p, 0, none⟩) :: .agg #[.int .u64 (iv a.tv), .int .u64 (iv a.tm)] :: .bool wd :: .agg #[.int .u64 (iv (ofT wd a.tv)), .int .u64 (iv (ofT wd a.tm))] :: .pointer (some ⟨q, 0, none⟩) :: .pointer (some ⟨q, 0, none⟩) :: .pointer (some ⟨q, 0, none⟩) :: .agg #[.int .u64 (iv b.tv), .int .u64 (iv b.tm)] :: .bool wd :: .agg #[.int .u64 (iv (ofT wd b.tv)), .int .u64 (iv (ofT wd b.tm))] :: .bool false :: .agg #[.int .u64 (iv (ofT wd a.tv)), .int .u64 (iv (ofT wd a.tm))] :: .agg #[.int .u64 (iv (ofT wd b.tv)), .int .u64 (iv (ofT wd b.tm))] :: .agg #[.int .u64 (iv ((ofT wd a.tv) &&& (ofT wd b.tv))), .int .u64 (iv (Tn.andM (ofT wd a.tv) (ofT wd a.tm) (ofT wd b.tv) (ofT wd b.tm)))] :: .agg #[.int .u64 (iv (0#64)), .int .u64 (iv 0#64)] :: .bool false :: .bool false :: .agg #[.int .u64 (iv (ofT wd a.tv)), .int .u64 (iv (ofT wd a.tm))] :: .bool false :: undef :: undef :: undef :: undef :: undef :: undef :: undef :: .bool true :: .agg #[.int .u64 (iv (ofT wd b.tv)), .int .u64 (iv (ofT wd b.tm))] :: .bool true :: sel (L 0) (.pointer (some ⟨p, 0, none⟩)) (undef) :: sel (L 1) (.pointer (some ⟨p, 0, none⟩)) (undef) :: sel (L 2) (.pointer (some ⟨p, 0, none⟩)) (undef) :: sel (L 3) (.pointer (some ⟨p1_13, 0, none⟩)) (undef) :: sel (L 4) (.int .u64 (iv (ofT wd b.tv))) (undef) :: sel (L 5) (.agg #[.int .u64 (iv (ofT wd b.tv)), .int .u64 (iv (~~~(ofT wd b.tv)))]) (undef) :: sel (L 6) (.bool true) (undef) :: [] : List Value).toArray, []⟩ ∧ GrL [p] wk5 wx ∧ AtA wx p (sel (L 6) (bv { a with tv := Tn.mtV a.tv a.tm (ofT wd b.tv) (~~~(ofT wd b.tv)), tm := Tn.mtM a.tv a.tm (ofT wd b.tv) (~~~(ofT wd b.tv)) }) (bv a)) 30) (by kernel_rfl) ?h0 ?step ?fin
  case h0 => exact ⟨rfl, GrL.of (Gr.drew (Gr.refl _)), (hp_5).drew⟩
  case step =>
   refine allOps_cons 0 ?_ ?_
   ·refine kF rfl ?_
    rintro L ac wx hL hd ⟨rfl, hG, Ap⟩
    refine wM (v := .pointer (some ⟨p, 0, none⟩)) rfl rfl ?_
    exact ⟨rfl, hG, Ap⟩
   refine allOps_cons 1 ?_ ?_
   ·refine kF rfl ?_
    rintro L ac wx hL hd ⟨rfl, hG, Ap⟩
    obtain ⟨e0, -⟩ := hd
    refine wp_nil (r := ⟨p, 0, none⟩) rfl (sel_of (e0 rfl)) ?_
    exact ⟨rfl, hG, Ap⟩
   refine allOps_cons 2 ?_ ?_
   ·refine kF rfl ?_
    rintro L ac wx hL hd ⟨rfl, hG, Ap⟩
    obtain ⟨e0, -⟩ := hd
    refine wp_fa0 rfl (sel_of (e0 rfl)) ?_
    exact ⟨rfl, hG, Ap⟩
   refine allOps_cons 3 ?_ ?_
   ·refine kF rfl ?_
    rintro L ac wx hL hd ⟨rfl, hG, Ap⟩
    refine wp_fT0 rfl rfl ?_
    exact ⟨rfl, hG, Ap⟩
   refine allOps_cons 4 ?_ ?_
   ·refine kF rfl ?_
    rintro L ac wx hL hd ⟨rfl, hG, Ap⟩
    obtain ⟨e0, -⟩ := hd
    have HL := (hp1_13_5).grl hG (n1 (Ne.symm np_p1_13))
    refine wp_ld_uint64 (v := .int .u64 (iv (ofT wd b.tv))) rfl (sel_of (e0 rfl)) (HL) rfl ?_
    exact ⟨rfl, hG, Ap⟩
   refine allOps_cons 5 ?_ ?_
   ·refine kF rfl ?_
    rintro L ac wx hL hd ⟨rfl, hG, Ap⟩
    obtain ⟨e0, -⟩ := hd
    refine wp_call1 rfl (sel_of (e0 rfl)) (by go_simp) ?_
    refine ((fun w => k_ones (ofT wd b.tv) w) _).mono ?_
    rintro e w1 ⟨rfl, hg⟩
    refine ⟨_, rfl, ?_⟩
    exact ⟨rfl, hG.then hg, Ap.gr hg⟩
   refine allOps_cons 6 ?_ ?_
   ·refine kF rfl ?_
    rintro L ac wx hL hd ⟨rfl, hG, Ap⟩
    obtain ⟨e0, e1, e2, -⟩ := hd
    have HL := Ap; rw [hL] at HL
    refine wp_call2 rfl (sel_of (e0 rfl)) (sel_of (e1 rfl)) (by go_simp) ?_
    refine (k_know a (ofT wd b.tv) (~~~(ofT wd b.tv)) true hk p _ HL).mono ?_
    rintro e w1 ⟨rfl, hn, hgx⟩
    refine ⟨_, rfl, ?_⟩
    exact ⟨rfl, hG.thenx hgx (.inl m1), hn⟩
   refine allOps_cons 7 ?_ ?_
   ·refine kF rfl ?_
    rintro L ac wx hL hd ⟨rfl, hG, Ap⟩
    obtain ⟨e0, e1, e2, e3, e4, e5, e6, e7, e8, -⟩ := hd
    refine wA (v := .bool true) rfl (sel_of (e0 rfl)) ?_
    exact ⟨rfl, hG, Ap⟩
   exact allOps_nil 8
  case fin =>
   rintro L ac wf6 hall ⟨rfl, hG6, B6p⟩
   have l0 : L 0 = true := hall 0 (by decide)
   have l1 : L 1 = true := hall 1 (by decide)
   have l2 : L 2 = true := hall 2 (by decide)
   have l3 : L 3 = true := hall 3 (by decide)
   have l4 : L 4 = true := hall 4 (by decide)
   have l5 : L 5 = true := hall 5 (by decide)
   have l6 : L 6 = true := hall 6 (by decide)
   have l7 : L 7 = true := hall 7 (by decide)
   rw [l6] at B6p
   change AtA wf6 p (bv { a with tv := Tn.mtV a.tv a.tm (ofT wd b.tv) (~~~(ofT wd b.tv)), tm := Tn.mtM a.tv a.tm (ofT wd b.tv) (~~~(ofT wd b.tv)) }) 30 at B6p
   simp only [l0, l1, l2, l3, l4, l5, l6, l7, sel_t]
   have hq_c6 := (hq_5).grl hG6 (n1 (Ne.symm hpq))
   have hPW_c6 := (hPW_5).grl hG6 (n1 (Ne.symm npPW))
   have hp1_12_c6 := (hp1_12_5).grl hG6 (n1 (Ne.symm np_p1_12))
   have hp1_13_c6 := (hp1_13_5).grl hG6 (n1 (Ne.symm np_p1_13))
   have hF_c6 := (hF_5).app hG6 (r1 (.inl m21))
   clear l0 l1 l2 l3 l4 l5 l6 l7 hall
   go_wp2
   go_ret
   exact ⟨rfl, B6p, hq_c6, hF_c6⟩
set_option maxHeartbeats 16000000 in
theorem set_e (wd : Bool) (a b : Bd) (p q : Nat) (w : World) (hpq : p ≠ q) (HA : AtA w p (bv a) 30) (HB : AtA w q (bv b) 30) (PW : Nat) (npPW : p ≠ PW) (nqPW : q ≠ PW) (HW : AtA w PW #[.bool wd] 4) (hz : (iv ((ofT wd a.tv) &&& (ofT wd b.tv)) == iv 0#64 && iv (Tn.andM (ofT wd a.tv) (ofT wd a.tm) (ofT wd b.tv) (ofT wd b.tm)) == iv 0#64) = false) (ho1 : oneM (ofT wd a.tv) (ofT wd a.tm) = false) (ho2 : oneM (ofT wd b.tv) (ofT wd b.tm) = false) : Calls Tryz.prog 267 #[.pointer (some ⟨p, 0, none⟩), .pointer (some ⟨q, 0, none⟩), .pointer (some ⟨PW, 0, none⟩)] w fun e w' => e = .returned (.bool true) ∧ AtA w' p (bv a) 30 ∧ AtA w' q (bv b) 30 ∧ GrL [p, q] w w' := by
 go_enter Tryz.func267, Tryz.ntmps267
 go_upto_region 0 with fail
 refine rG ?_
 refine sF rfl ?_
 refine wA (v := .bool false) rfl rfl ?_
 simp only [Act.put, zs, z0, z1]
 refine s_end ?_
 go_upto_region 1 with fail
 refine wp_region_inv (by kernel_rfl) (fun L ac wx => ∃ (p1_12 : Nat) (p1_13 : Nat), ac = ⟨(.pointer (some ⟨p, 0, none⟩) :: .pointer (some ⟨q, 0, none⟩) :: .pointer (some ⟨PW, 0, none⟩) :: undef :: undef :: .bool false :: sel (L 12) (.pointer (some ⟨p1_12, 0, none⟩)) (undef) :: sel (L 13) (.pointer (some ⟨p1_13, 0, none⟩)) (undef) :: sel (L 0) (.pointer (some ⟨p, 0, none⟩)) (undef) :: sel (L 1) (.pointer (some ⟨p, 0, none⟩)) (undef) :: sel (L 2) (.pointer (some ⟨p, 0, none⟩)) (undef) :: sel (L 3) (.agg #[.int .u64 (iv a.tv), .int .u64 (iv a.tm)]) (undef) :: sel (L 4) (.bool wd) (undef) :: sel (L 5) (.agg #[.int .u64 (iv (ofT wd a.tv)), .int .u64 (iv (ofT wd a.tm))]) (undef) :: sel (L 6) (.pointer (some ⟨q, 0, none⟩)) (undef) :: sel (L 7) (.pointer (some ⟨q, 0, none⟩)) (undef) :: sel (L 8) (.pointer (some ⟨q, 0, none⟩)) (undef) :: sel (L 9) (.agg #[.int .u64 (iv b.tv), .int .u64 (iv b.tm)]) (undef) :: sel (L 10) (.bool wd) (undef) :: sel (L 11) (.agg #[.int .u64 (iv (ofT wd b.tv)), .int .u64 (iv (ofT wd b.tm))]) (undef) :: undef :: undef :: undef :: undef :: undef :: undef :: undef :: undef :: undef :: undef :: undef :: undef :: undef :: undef :: undef :: undef :: undef :: undef :: undef :: undef :: undef :: undef :: undef :: undef :: undef :: undef :: [] : List Value).toArray, []⟩ ∧ GrL [] w wx ∧ (L 12 = true → w.heap.size ≤ p1_12 ∧ AtA wx p1_12 (sel (L 14) (#[.int .u64 (iv (ofT wd a.tv)), .int .u64 (iv (ofT wd a.tm))]) (#[.int .u64 0, .int .u64 0])) 24) ∧ (L 13 = true → w.heap.size ≤ p1_13 ∧ AtA wx p1_13 (sel (L 15) (#[.int .u64 (iv (ofT wd b.tv)), .int .u64 (iv (ofT wd b.tm))]) (#[.int .u64 0, .int .u64 0])) 24) ∧ (L 14 = true → L 12 = true) ∧ (L 15 = true → L 13 = true) ∧ (L 12 = true → L 13 = true → p1_12 ≠ p1_13)) (by kernel_rfl) ?h0 ?step ?fin
 case h0 => exact ⟨0, 0, rfl, GrL.of (Gr.drew (Gr.refl _)), (fun h => by cases h), (fun h => by cases h), (fun h => by cases h), (fun h => by cases h), (fun h => by cases h)⟩
 case step =>
  refine allOps_cons 0 ?_ ?_
  ·refine kF rfl ?_
   rintro L ac wx hL hd ⟨p1_12, p1_13, rfl, hG, f12, f13, s14, s15, g12_13⟩
   refine wM (v := .pointer (some ⟨p, 0, none⟩)) rfl rfl ?_
   exact ⟨p1_12, p1_13, rfl, hG, f12, f13, s14, s15, g12_13⟩
  refine allOps_cons 1 ?_ ?_
  ·refine kF rfl ?_
   rintro L ac wx hL hd ⟨p1_12, p1_13, rfl, hG, f12, f13, s14, s15, g12_13⟩
   obtain ⟨e0, -⟩ := hd
   refine wp_nil (r := ⟨p, 0, none⟩) rfl (sel_of (e0 rfl)) ?_
   exact ⟨p1_12, p1_13, rfl, hG, f12, f13, s14, s15, g12_13⟩
  refine allOps_cons 2 ?_ ?_
  ·refine kF rfl ?_
   rintro L ac wx hL hd ⟨p1_12, p1_13, rfl, hG, f12, f13, s14, s15, g12_13⟩
   obtain ⟨e0, -⟩ := hd
   refine wp_fa0 rfl (sel_of (e0 rfl)) ?_
   exact ⟨p1_12, p1_13, rfl, hG, f12, f13, s14, s15, g12_13⟩
  refine allOps_cons 3 ?_ ?_
  ·refine kF rfl ?_
   rintro L ac wx hL hd ⟨p1_12, p1_13, rfl, hG, f12, f13, s14, s15, g12_13⟩
   obtain ⟨e0, -⟩ := hd
   have HL := (HA).grl hG n0
   refine wp_pT (v0 := .int .u64 (iv a.tv)) (v1 := .int .u64 (iv a.tm)) rfl (sel_of (e0 rfl)) (HL) rfl rfl ?_
   exact ⟨p1_12, p1_13, rfl, hG, f12, f13, s14, s15, g12_13⟩
  refine allOps_cons 4 ?_ ?_
  ·refine kF rfl ?_
   rintro L ac wx hL hd ⟨p1_12, p1_13, rfl, hG, f12, f13, s14, s15, g12_13⟩
   have HL := (HW).grl hG n0
   refine wp_ld_bool (v := .bool wd) rfl rfl (HL) rfl ?_
   exact ⟨p1_12, p1_13, rfl, hG, f12, f13, s14, s15, g12_13⟩
  refine allOps_cons 5 ?_ ?_
  ·refine kF rfl ?_
   rintro L ac wx hL hd ⟨p1_12, p1_13, rfl, hG, f12, f13, s14, s15, g12_13⟩
   obtain ⟨e0, e1, -⟩ := hd
   refine wp_call2 rfl (sel_of (e0 rfl)) (sel_of (e1 rfl)) (by go_simp) ?_
   refine ((fun w => k_bitsOf wd a.tv a.tm w) _).mono ?_
   rintro e w1 ⟨rfl, hg⟩
   refine ⟨_, rfl, ?_⟩
   exact ⟨p1_12, p1_13, rfl, hG.then hg, fun h => ⟨(f12 h).1, (f12 h).2.gr hg⟩, fun h => ⟨(f13 h).1, (f13 h).2.gr hg⟩, s14, s15, g12_13⟩
  refine allOps_cons 6 ?_ ?_
  ·refine kF rfl ?_
   rintro L ac wx hL hd ⟨p1_12, p1_13, rfl, hG, f12, f13, s14, s15, g12_13⟩
   refine wM (v := .pointer (some ⟨q, 0, none⟩)) rfl rfl ?_
   exact ⟨p1_12, p1_13, rfl, hG, f12, f13, s14, s15, g12_13⟩
  refine allOps_cons 7 ?_ ?_
  ·refine kF rfl ?_
   rintro L ac wx hL hd ⟨p1_12, p1_13, rfl, hG, f12, f13, s14, s15, g12_13⟩
   obtain ⟨e0, -⟩ := hd
   refine wp_nil (r := ⟨q, 0, none⟩) rfl (sel_of (e0 rfl)) ?_
   exact ⟨p1_12, p1_13, rfl, hG, f12, f13, s14, s15, g12_13⟩
  refine allOps_cons 8 ?_ ?_
  ·refine kF rfl ?_
   rintro L ac wx hL hd ⟨p1_12, p1_13, rfl, hG, f12, f13, s14, s15, g12_13⟩
   obtain ⟨e0, -⟩ := hd
   refine wp_fa0 rfl (sel_of (e0 rfl)) ?_
   exact ⟨p1_12, p1_13, rfl, hG, f12, f13, s14, s15, g12_13⟩
  refine allOps_cons 9 ?_ ?_
  ·refine kF rfl ?_
   rintro L ac wx hL hd ⟨p1_12, p1_13, rfl, hG, f12, f13, s14, s15, g12_13⟩
   obtain ⟨e0, -⟩ := hd
   have HL := (HB).grl hG n0
   refine wp_pT (v0 := .int .u64 (iv b.tv)) (v1 := .int .u64 (iv b.tm)) rfl (sel_of (e0 rfl)) (HL) rfl rfl ?_
   exact ⟨p1_12, p1_13, rfl, hG, f12, f13, s14, s15, g12_13⟩
  refine allOps_cons 10 ?_ ?_
  ·refine kF rfl ?_
   rintro L ac wx hL hd ⟨p1_12, p1_13, rfl, hG, f12, f13, s14, s15, g12_13⟩
   have HL := (HW).grl hG n0
   refine wp_ld_bool (v := .bool wd) rfl rfl (HL) rfl ?_
   exact ⟨p1_12, p1_13, rfl, hG, f12, f13, s14, s15, g12_13⟩
  refine allOps_cons 11 ?_ ?_
  ·refine kF rfl ?_
   rintro L ac wx hL hd ⟨p1_12, p1_13, rfl, hG, f12, f13, s14, s15, g12_13⟩
   obtain ⟨e0, e1, e2, -⟩ := hd
   refine wp_call2 rfl (sel_of (e0 rfl)) (sel_of (e1 rfl)) (by go_simp) ?_
   refine ((fun w => k_bitsOf wd b.tv b.tm w) _).mono ?_
   rintro e w1 ⟨rfl, hg⟩
   refine ⟨_, rfl, ?_⟩
   exact ⟨p1_12, p1_13, rfl, hG.then hg, fun h => ⟨(f12 h).1, (f12 h).2.gr hg⟩, fun h => ⟨(f13 h).1, (f13 h).2.gr hg⟩, s14, s15, g12_13⟩
  refine allOps_cons 12 ?_ ?_
  ·refine kF rfl ?_
   rintro L ac wx hL hd ⟨p1_12, p1_13, rfl, hG, f12, f13, s14, s15, g12_13⟩
   have ls : L 14 = false := by
    cases h : L 14 with
    | false => rfl
    | true => have := s14 h; rw [hL] at this; cases this
   refine wp_allocT rfl ?_
   intro w1 hn hg
   exact ⟨wx.heap.size, p1_13, rfl, hG.then hg, fun _ => ⟨hG.size, by rw [show upd L 12 14 = false from ls]; exact hn⟩, fun h => ⟨(f13 h).1, (f13 h).2.gr hg⟩, fun _ => rfl, s15, fun _ h => by have z := (f13 h).2.lt; omega⟩
  refine allOps_cons 13 ?_ ?_
  ·refine kF rfl ?_
   rintro L ac wx hL hd ⟨p1_12, p1_13, rfl, hG, f12, f13, s14, s15, g12_13⟩
   have ls : L 15 = false := by
    cases h : L 15 with
    | false => rfl
    | true => have := s15 h; rw [hL] at this; cases this
   refine wp_allocT rfl ?_
   intro w1 hn hg
   exact ⟨p1_12, wx.heap.size, rfl, hG.then hg, fun h => ⟨(f12 h).1, (f12 h).2.gr hg⟩, fun _ => ⟨hG.size, by rw [show upd L 13 15 = false from ls]; exact hn⟩, s14, fun _ => rfl, fun h _ => by have z := (f12 h).2.lt; omega⟩
  refine allOps_cons 14 ?_ ?_
  ·refine kF rfl ?_
   rintro L ac wx hL hd ⟨p1_12, p1_13, rfl, hG, f12, f13, s14, s15, g12_13⟩
   obtain ⟨e0, e1, e2, e3, e4, e5, e6, e7, e8, e9, e10, e11, e12, e13, e14, e15, e16, -⟩ := hd
   have lp : L 12 = true := e0 rfl
   obtain ⟨k12, z12⟩ := f12 lp
   have HL := z12; rw [hL] at HL
   refine wp_storeT rfl (sel_of (e0 rfl)) (sel_of (e1 rfl)) HL ?_
   intro w1 hn hgx
   exact ⟨p1_12, p1_13, rfl, hG.thenx hgx (.inr k12), fun _ => ⟨k12, hn⟩, fun h => ⟨(f13 h).1, (f13 h).2.grx hgx (Ne.symm (g12_13 lp h))⟩, fun _ => lp, s15, g12_13⟩
  refine allOps_cons 15 ?_ ?_
  ·refine kF rfl ?_
   rintro L ac wx hL hd ⟨p1_12, p1_13, rfl, hG, f12, f13, s14, s15, g12_13⟩
   obtain ⟨e0, e1, e2, e3, e4, e5, e6, e7, e8, e9, e10, e11, e12, e13, e14, e15, e16, e17, -⟩ := hd
   have lp : L 13 = true := e0 rfl
   obtain ⟨k13, z13⟩ := f13 lp
   have HL := z13; rw [hL] at HL
   refine wp_storeT rfl (sel_of (e0 rfl)) (sel_of (e1 rfl)) HL ?_
   intro w1 hn hgx
   exact ⟨p1_12, p1_13, rfl, hG.thenx hgx (.inr k13), fun h => ⟨(f12 h).1, (f12 h).2.grx hgx (g12_13 h lp)⟩, fun _ => ⟨k13, hn⟩, s14, fun _ => lp, g12_13⟩
  exact allOps_nil 16
 case fin =>
  rintro L ac wf1 hall ⟨p1_12, p1_13, rfl, hG1, f12, f13, s14, s15, g12_13⟩
  have l0 : L 0 = true := hall 0 (by decide)
  have l1 : L 1 = true := hall 1 (by decide)
  have l2 : L 2 = true := hall 2 (by decide)
  have l3 : L 3 = true := hall 3 (by decide)
  have l4 : L 4 = true := hall 4 (by decide)
  have l5 : L 5 = true := hall 5 (by decide)
  have l6 : L 6 = true := hall 6 (by decide)
  have l7 : L 7 = true := hall 7 (by decide)
  have l8 : L 8 = true := hall 8 (by decide)
  have l9 : L 9 = true := hall 9 (by decide)
  have l10 : L 10 = true := hall 10 (by decide)
  have l11 : L 11 = true := hall 11 (by decide)
  have l12 : L 12 = true := hall 12 (by decide)
  have l13 : L 13 = true := hall 13 (by decide)
  have l14 : L 14 = true := hall 14 (by decide)
  have l15 : L 15 = true := hall 15 (by decide)
  obtain ⟨kp1_12, zp1_12⟩ := f12 l12
  rw [l14] at zp1_12
  change AtA wf1 p1_12 (#[.int .u64 (iv (ofT wd a.tv)), .int .u64 (iv (ofT wd a.tm))]) 24 at zp1_12
  obtain ⟨kp1_13, zp1_13⟩ := f13 l13
  rw [l15] at zp1_13
  change AtA wf1 p1_13 (#[.int .u64 (iv (ofT wd b.tv)), .int .u64 (iv (ofT wd b.tm))]) 24 at zp1_13
  have np1_12_p1_13 := g12_13 l12 l13
  simp only [l0, l1, l2, l3, l4, l5, l6, l7, l8, l9, l10, l11, l12, l13, sel_t]
  have np_p1_12 : p ≠ p1_12 := Nat.ne_of_lt (Nat.lt_of_lt_of_le (HA).lt kp1_12)
  have np_p1_13 : p ≠ p1_13 := Nat.ne_of_lt (Nat.lt_of_lt_of_le (HA).lt kp1_13)
  have nq_p1_12 : q ≠ p1_12 := Nat.ne_of_lt (Nat.lt_of_lt_of_le (HB).lt kp1_12)
  have nq_p1_13 : q ≠ p1_13 := Nat.ne_of_lt (Nat.lt_of_lt_of_le (HB).lt kp1_13)
  have nPW_p1_12 : PW ≠ p1_12 := Nat.ne_of_lt (Nat.lt_of_lt_of_le (HW).lt kp1_12)
  have nPW_p1_13 : PW ≠ p1_13 := Nat.ne_of_lt (Nat.lt_of_lt_of_le (HW).lt kp1_13)
  have frp1_12 := Nat.le_trans (GrL.refl [p, q] w).size kp1_12
  have frp1_13 := Nat.le_trans (GrL.refl [p, q] w).size kp1_13
  have hp_c1 := (HA).grl hG1 n0
  have hq_c1 := (HB).grl hG1 n0
  have hPW_c1 := (HW).grl hG1 n0
  have hF_c1 := (GrL.refl [p, q] w).app hG1 (r0 )
  clear l0 l1 l2 l3 l4 l5 l6 l7 l8 l9 l10 l11 l12 l13 l14 l15 hall f12 f13 s14 s15 g12_13
  go_upto_region 2 with fail
  refine rG ?_
  refine sF rfl ?_
  refine wp_pT (v0 := .int .u64 (iv (ofT wd a.tv))) (v1 := .int .u64 (iv (ofT wd a.tm))) rfl rfl (zp1_12) rfl rfl ?_
  simp only [Act.put, zs, z0, z1]
  refine sF rfl ?_
  refine wp_pT (v0 := .int .u64 (iv (ofT wd b.tv))) (v1 := .int .u64 (iv (ofT wd b.tm))) rfl rfl (zp1_13) rfl rfl ?_
  simp only [Act.put, zs, z0, z1]
  refine sF rfl ?_
  refine wp_call2 rfl rfl rfl (by go_simp) ?_
  refine ((fun w => cv (Tn.and_any (ofT wd a.tv) (ofT wd a.tm) (ofT wd b.tv) (ofT wd b.tm) w)) _).mono ?_
  rintro e wk2 ⟨rfl, hk2⟩
  refine ⟨_, rfl, ?_⟩
  have hp_2 := (hp_c1).gr hk2
  have hq_2 := (hq_c1).gr hk2
  have hPW_2 := (hPW_c1).gr hk2
  have hp1_12_2 := (zp1_12).gr hk2
  have hp1_13_2 := (zp1_13).gr hk2
  have hF_2 := (hF_c1).then hk2
  simp only [Act.put, zs, z0, z1]
  refine sF rfl ?_
  refine wp_call1 rfl rfl (by go_simp) ?_
  refine ((fun w => cv (Tn.cst_gr (0#64) w)) _).mono ?_
  rintro e wk3 ⟨rfl, hk3⟩
  refine ⟨_, rfl, ?_⟩
  have hp_3 := (hp_2).gr hk3
  have hq_3 := (hq_2).gr hk3
  have hPW_3 := (hPW_2).gr hk3
  have hp1_12_3 := (hp1_12_2).gr hk3
  have hp1_13_3 := (hp1_13_2).gr hk3
  have hF_3 := (hF_2).then hk3
  simp only [Act.put, zs, z0, z1]
  refine sF rfl ?_
  refine wp_eqT (r := false) rfl rfl rfl hz ?_
  simp only [Act.put, zs, z0, z1]
  refine sF rfl ?_
  refine wA (v := .bool false) rfl rfl ?_
  simp only [Act.put, zs, z0, z1]
  refine s_end ?_
  go_upto_region 4 with fail
  refine rG ?_
  refine sF rfl ?_
  refine wp_pT (v0 := .int .u64 (iv (ofT wd a.tv))) (v1 := .int .u64 (iv (ofT wd a.tm))) rfl rfl (hp1_12_3) rfl rfl ?_
  simp only [Act.put, zs, z0, z1]
  refine sF rfl ?_
  refine wp_call1 rfl rfl (by go_simp) ?_
  refine ((fun w => k_oneBit (ofT wd a.tv) (ofT wd a.tm) w) _).mono ?_
  rintro e wk4 ⟨he4, hk4⟩
  obtain rfl : e = .returned (.bool false) := he4.trans (by rw [ho1])
  clear he4
  refine ⟨_, rfl, ?_⟩
  have hp_4 := (hp_3).gr hk4
  have hq_4 := (hq_3).gr hk4
  have hPW_4 := (hPW_3).gr hk4
  have hp1_12_4 := (hp1_12_3).gr hk4
  have hp1_13_4 := (hp1_13_3).gr hk4
  have hF_4 := (hF_3).then hk4
  simp only [Act.put, zs, z0, z1]
  refine sF rfl ?_
  refine wA (v := .bool false) rfl rfl ?_
  simp only [Act.put, zs, z0, z1]
  refine s_end ?_
  go_upto_region 6 with fail
  refine rG ?_
  refine sF rfl ?_
  refine wp_pT (v0 := .int .u64 (iv (ofT wd b.tv))) (v1 := .int .u64 (iv (ofT wd b.tm))) rfl rfl (hp1_13_4) rfl rfl ?_
  simp only [Act.put, zs, z0, z1]
  refine sF rfl ?_
  refine wp_call1 rfl rfl (by go_simp) ?_
  refine ((fun w => k_oneBit (ofT wd b.tv) (ofT wd b.tm) w) _).mono ?_
  rintro e wk5 ⟨he5, hk5⟩
  obtain rfl : e = .returned (.bool false) := he5.trans (by rw [ho2])
  clear he5
  refine ⟨_, rfl, ?_⟩
  have hp_5 := (hp_4).gr hk5
  have hq_5 := (hq_4).gr hk5
  have hPW_5 := (hPW_4).gr hk5
  have hp1_12_5 := (hp1_12_4).gr hk5
  have hp1_13_5 := (hp1_13_4).gr hk5
  have hF_5 := (hF_4).then hk5
  simp only [Act.put, zs, z0, z1]
  refine sF rfl ?_
  refine wA (v := .bool false) rfl rfl ?_
  simp only [Act.put, zs, z0, z1]
  refine s_end ?_
  go_upto_region 8 with fail
  refine rG ?_
  refine sF rfl ?_
  refine wA (v := .bool true) rfl rfl ?_
  simp only [Act.put, zs, z0, z1]
  refine s_end ?_
  go_wp2
  go_ret
  exact ⟨rfl, hp_5, hq_5, hF_5⟩
def one1 (v : BitVec 64) : Bool := cnt v == 1
theorem one1_ok : One1 one1 := fun v h => cnt_one v (by unfold one1 at h; simpa using h)
theorem tell_set (wd : Bool) (a b : Bd) (p q : Nat) (w : World) (hpq : p ≠ q) (HA : AtA w p (bv a) 30) (HB : AtA w q (bv b) 30) (PW : Nat) (npPW : p ≠ PW) (nqPW : q ≠ PW) (HW : AtA w PW #[.bool wd] 4) : Calls Tryz.prog 267 #[.pointer (some ⟨p, 0, none⟩), .pointer (some ⟨q, 0, none⟩), .pointer (some ⟨PW, 0, none⟩)] w (tellPost p q (setM one1 wd a b) w) := by
 have z1 : ∀ x y : BitVec 64, (iv x == iv 0#64 && iv y == iv 0#64) = decide (x = 0#64 ∧ y = 0#64) := fun x y => by
  rw [Tn.iv_eq, Tn.iv_eq]
  by_cases h1 : x = 0#64 <;> by_cases h2 : y = 0#64 <;> simp [h1, h2]
 have z2 : ∀ v m : BitVec 64, oneM v m = decide (m = 0#64 ∧ one1 v = true) := fun v m => by
  unfold oneM one1
  by_cases h1 : m = 0#64 <;> cases h2 : (cnt v == 1) <;> simp [h1]
 unfold setM knowM
 cases hz : (iv ((ofT wd a.tv) &&& (ofT wd b.tv)) == iv 0#64 && iv (Tn.andM (ofT wd a.tv) (ofT wd a.tm) (ofT wd b.tv) (ofT wd b.tm)) == iv 0#64) with
 | true =>
  have hz' := hz
  rw [z1, decide_eq_true_eq] at hz'
  rw [if_pos hz']
  exact set_z wd a b p q w hpq HA HB PW npPW nqPW HW hz
 | false =>
  have hz' := hz
  rw [z1, decide_eq_false_iff_not] at hz'
  rw [if_neg hz']
  cases ho1 : oneM (ofT wd a.tv) (ofT wd a.tm) with
  | true =>
   have ho1' := ho1
   rw [z2, decide_eq_true_eq] at ho1'
   rw [if_pos ho1']
   cases hk : Tn.meetX b.tv b.tm (ofT wd a.tv) (~~~(ofT wd a.tv)) with
   | false => exact set_1n wd a b p q w hpq HA HB PW npPW nqPW HW hz ho1 hk
   | true => exact set_1t wd a b p q w hpq HA HB PW npPW nqPW HW hz ho1 hk
  | false =>
   have ho1' := ho1
   rw [z2, decide_eq_false_iff_not] at ho1'
   rw [if_neg ho1']
   cases ho2 : oneM (ofT wd b.tv) (ofT wd b.tm) with
   | true =>
    have ho2' := ho2
    rw [z2, decide_eq_true_eq] at ho2'
    rw [if_pos ho2']
    cases hk : Tn.meetX a.tv a.tm (ofT wd b.tv) (~~~(ofT wd b.tv)) with
    | false => exact set_2n wd a b p q w hpq HA HB PW npPW nqPW HW hz ho1 ho2 hk
    | true => exact set_2t wd a b p q w hpq HA HB PW npPW nqPW HW hz ho1 ho2 hk
   | false =>
    have ho2' := ho2
    rw [z2, decide_eq_false_iff_not] at ho2'
    rw [if_neg ho2']
    exact set_e wd a b p q w hpq HA HB PW npPW nqPW HW hz ho1 ho2
end Go.Proofs.YtcbcijibgpaipaaGreat
