/- Towards the statements of package cond (layer 6): a number that is taken from two bounds. -/
import Derived.Test.YtcbcijibgpaipaaGreatCX
import Derived.Test.YtcbcijibgpaipaaGreatMN
import Derived.Deep.DeepCutAuto
namespace Go.Proofs.YtcbcijibgpaipaaGreat
open Go.ChangeShapes Go.WideShapes Go.ChangeAt Go.RowKit
open Tn (iv)
set_option linter.unusedVariables false
set_option linter.unusedSimpArgs false
set_option maxRecDepth 20000

theorem k_withouts (wd : Bool) (w : World) : Calls Tryz.prog 275 #[.bool wd] w fun e w' => ∃ PW PS, e = .returned (.slice (some ⟨PS, 0, none⟩) 2 2) ∧ w.heap.size ≤ PW ∧ w.heap.size ≤ PS ∧ PW ≠ PS ∧ AtA w' PW #[.bool wd] 4 ∧ AtA w' PS #[.func (.func 282) #[] #[.pointer (some ⟨PW, 0, none⟩)], .func (.func 284) #[] #[.pointer (some ⟨PW, 0, none⟩)]] 191 ∧ Gr w w' := by
 go_enter Tryz.func275, Tryz.ntmps275
 go_wp2
 go_ret
 refine ⟨w.heap.size, w.heap.size + 1, rfl, Nat.le_refl _, by omega, by omega, (AtA.newb _ rfl _ _).alloc _, AtA.newb _ (by simp) _ _, Gr.alloc (Gr.alloc (Gr.refl w) _ _) _ _⟩
theorem out_no_t (a : Bd) (l h : Int) (hne : (l != h) = true) (p : Nat) (w : World) (HA : AtA w p (bv a) 30) : Calls Tryz.prog 266 #[.pointer (some ⟨p, 0, none⟩), .agg #[.int .u64 l, .int .u64 h], .bool true] w fun e w' => e = .returned (.tuple #[]) ∧ AtA w' p (bv a) 30 ∧ GrX p w w' := by
 go_enter Tryz.func266, Tryz.ntmps266
 go_wp2
 go_returns
 exact ⟨rfl, HA.alloc _, GrX.of (Gr.alloc (Gr.refl w) _ _)⟩
set_option maxHeartbeats 16000000 in
theorem out_one_t (a : Bd) (l h : Int) (hne : (l != h) = false) (X Y : Bd) (p : Nat) (w : World)
  (c1 : ∀ (PW : Nat) (w : World), p ≠ PW → AtA w p (bv a) 30 → AtA w PW #[.bool true] 4 → Calls Tryz.prog 282 #[.pointer (some ⟨p, 0, none⟩), .int .u64 l, .pointer (some ⟨PW, 0, none⟩)] w fun e w' => e = .returned (.tuple #[]) ∧ AtA w' p (bv X) 30 ∧ GrX p w w')
  (c2 : ∀ (PW : Nat) (w : World), p ≠ PW → AtA w p (bv X) 30 → AtA w PW #[.bool true] 4 → Calls Tryz.prog 284 #[.pointer (some ⟨p, 0, none⟩), .int .u64 l, .pointer (some ⟨PW, 0, none⟩)] w fun e w' => e = .returned (.tuple #[]) ∧ AtA w' p (bv Y) 30 ∧ GrX p w w')
  (HA : AtA w p (bv a) 30) : Calls Tryz.prog 266 #[.pointer (some ⟨p, 0, none⟩), .agg #[.int .u64 l, .int .u64 h], .bool true] w fun e w' => e = .returned (.tuple #[]) ∧ AtA w' p (bv Y) 30 ∧ GrX p w w' := by
 go_enter Tryz.func266, Tryz.ntmps266
 go_wp2_with (go_at_call 275; refine (k_withouts _ _).mono ?_; rintro e w1 ⟨PW, PS, rfl, hPW, hPS, hne2, HW, HS, hg⟩)
 have HA1 : AtA w1 p (bv a) 30 := (HA.alloc _).gr hg
 have HB1 : AtA w1 w.heap.size #[.int .u64 l, .int .u64 h] 26 := (AtA.newb w rfl _ _).gr hg
 have hlt := HA.lt
 have hp1 : p ≠ PW := by simp only [World.alloc, Array.size_push] at hPW; omega
 have hp2 : PS ≠ p := by simp only [World.alloc, Array.size_push] at hPS; omega
 have hp3 : w.heap.size ≠ p := by omega
 have s0 : w1.cell? ⟨PS, 0, none⟩ = some (.func (.func 282) #[] #[.pointer (some ⟨PW, 0, none⟩)]) := HS.cell 0
 have b0 : w1.cell? ⟨w.heap.size, 0, none⟩ = some (.int .u64 l) := HB1.cell 0
 clear hPW hPS hlt
 refine wp_loop_rounds 3 ?_
 repeat any_goals (rw [rounds_succ]; go_wp2_with (first | (go_at_call 282; refine (c1 PW _ hp1 HA1 HW).mono ?_; rintro e w2 ⟨rfl, HX, gx⟩; have HW2 := HW.grx gx (Ne.symm hp1); have HS2 := HS.grx gx hp2; have HB2 := HB1.grx gx hp3; have s1 : w2.cell? ⟨PS, 1, none⟩ = some (.func (.func 284) #[] #[.pointer (some ⟨PW, 0, none⟩)]) := HS2.cell 1; have b1 : w2.cell? ⟨w.heap.size, 0, none⟩ = some (.int .u64 l) := HB2.cell 0) | (go_at_call 284; refine (c2 PW _ hp1 HX HW2).mono ?_; rintro e w3 ⟨rfl, HY, gx2⟩)))
 go_returns
 exact ⟨rfl, HY, ((GrX.of ((Gr.alloc (Gr.refl w) _ _).trans hg)).trans gx).trans gx2⟩
theorem k_leaveOut_t (a : Bd) (g : Good a) (l h : Int) (p : Nat) (w : World) (HA : AtA w p (bv a) 30) : Calls Tryz.prog 266 #[.pointer (some ⟨p, 0, none⟩), .agg #[.int .u64 l, .int .u64 h], .bool true] w fun e w' => e = .returned (.tuple #[]) ∧ AtA w' p (bv (outM true a l h)) 30 ∧ GrX p w w' := by
 unfold outM
 by_cases e : l = h
 ·rw [if_pos e]
  exact out_one_t a l h (by simpa using e) _ _ p w (fun PW w n h1 h2 => wo1_t a l g.u0 g.u1 g.u2 p PW w n h1 h2) (fun PW w n h1 h2 => wo2_t { a with ul := woL a.ul a.uh l, uh := woH a.ul a.uh l } l g.s0 g.s1 g.s2 p PW w n h1 h2) HA
 ·rw [if_neg e]
  exact out_no_t a l h (by simpa using e) p w HA
theorem out_no_f (a : Bd) (l h : Int) (hne : (l != h) = true) (p : Nat) (w : World) (HA : AtA w p (bv a) 30) : Calls Tryz.prog 266 #[.pointer (some ⟨p, 0, none⟩), .agg #[.int .u64 l, .int .u64 h], .bool false] w fun e w' => e = .returned (.tuple #[]) ∧ AtA w' p (bv a) 30 ∧ GrX p w w' := by
 go_enter Tryz.func266, Tryz.ntmps266
 go_wp2
 go_returns
 exact ⟨rfl, HA.alloc _, GrX.of (Gr.alloc (Gr.refl w) _ _)⟩
set_option maxHeartbeats 16000000 in
theorem out_one_f (a : Bd) (l h : Int) (hne : (l != h) = false) (X Y : Bd) (p : Nat) (w : World)
  (c1 : ∀ (PW : Nat) (w : World), p ≠ PW → AtA w p (bv a) 30 → AtA w PW #[.bool false] 4 → Calls Tryz.prog 282 #[.pointer (some ⟨p, 0, none⟩), .int .u64 l, .pointer (some ⟨PW, 0, none⟩)] w fun e w' => e = .returned (.tuple #[]) ∧ AtA w' p (bv X) 30 ∧ GrX p w w')
  (c2 : ∀ (PW : Nat) (w : World), p ≠ PW → AtA w p (bv X) 30 → AtA w PW #[.bool false] 4 → Calls Tryz.prog 284 #[.pointer (some ⟨p, 0, none⟩), .int .u64 l, .pointer (some ⟨PW, 0, none⟩)] w fun e w' => e = .returned (.tuple #[]) ∧ AtA w' p (bv Y) 30 ∧ GrX p w w')
  (HA : AtA w p (bv a) 30) : Calls Tryz.prog 266 #[.pointer (some ⟨p, 0, none⟩), .agg #[.int .u64 l, .int .u64 h], .bool false] w fun e w' => e = .returned (.tuple #[]) ∧ AtA w' p (bv Y) 30 ∧ GrX p w w' := by
 go_enter Tryz.func266, Tryz.ntmps266
 go_wp2_with (go_at_call 275; refine (k_withouts _ _).mono ?_; rintro e w1 ⟨PW, PS, rfl, hPW, hPS, hne2, HW, HS, hg⟩)
 have HA1 : AtA w1 p (bv a) 30 := (HA.alloc _).gr hg
 have HB1 : AtA w1 w.heap.size #[.int .u64 l, .int .u64 h] 26 := (AtA.newb w rfl _ _).gr hg
 have hlt := HA.lt
 have hp1 : p ≠ PW := by simp only [World.alloc, Array.size_push] at hPW; omega
 have hp2 : PS ≠ p := by simp only [World.alloc, Array.size_push] at hPS; omega
 have hp3 : w.heap.size ≠ p := by omega
 have s0 : w1.cell? ⟨PS, 0, none⟩ = some (.func (.func 282) #[] #[.pointer (some ⟨PW, 0, none⟩)]) := HS.cell 0
 have b0 : w1.cell? ⟨w.heap.size, 0, none⟩ = some (.int .u64 l) := HB1.cell 0
 clear hPW hPS hlt
 refine wp_loop_rounds 3 ?_
 repeat any_goals (rw [rounds_succ]; go_wp2_with (first | (go_at_call 282; refine (c1 PW _ hp1 HA1 HW).mono ?_; rintro e w2 ⟨rfl, HX, gx⟩; have HW2 := HW.grx gx (Ne.symm hp1); have HS2 := HS.grx gx hp2; have HB2 := HB1.grx gx hp3; have s1 : w2.cell? ⟨PS, 1, none⟩ = some (.func (.func 284) #[] #[.pointer (some ⟨PW, 0, none⟩)]) := HS2.cell 1; have b1 : w2.cell? ⟨w.heap.size, 0, none⟩ = some (.int .u64 l) := HB2.cell 0) | (go_at_call 284; refine (c2 PW _ hp1 HX HW2).mono ?_; rintro e w3 ⟨rfl, HY, gx2⟩)))
 go_returns
 exact ⟨rfl, HY, ((GrX.of ((Gr.alloc (Gr.refl w) _ _).trans hg)).trans gx).trans gx2⟩
theorem k_leaveOut_f (a : Bd) (g : Good a) (l h : Int) (p : Nat) (w : World) (HA : AtA w p (bv a) 30) : Calls Tryz.prog 266 #[.pointer (some ⟨p, 0, none⟩), .agg #[.int .u64 l, .int .u64 h], .bool false] w fun e w' => e = .returned (.tuple #[]) ∧ AtA w' p (bv (outM false a l h)) 30 ∧ GrX p w w' := by
 unfold outM
 by_cases e : l = h
 ·rw [if_pos e]
  exact out_one_f a l h (by simpa using e) _ _ p w (fun PW w n h1 h2 => wo1_f a l g.w0 g.w1 (Int.le_trans g.w2 (by decide)) p PW w n h1 h2) (fun PW w n h1 h2 => wo2_f { a with wl := woL a.wl a.wh l, wh := woH a.wl a.wh l } l (Int.le_trans (by decide) g.v0) g.v1 (Int.le_trans g.v2 (by decide)) p PW w n h1 h2) HA
 ·rw [if_neg e]
  exact out_no_f a l h (by simpa using e) p w HA
set_option maxHeartbeats 16000000 in
theorem tell_unlike_t (a b : Bd) (ga : Good a) (gb : Good b) (p q : Nat) (w : World) (hpq : p ≠ q) (HA : AtA w p (bv a) 30) (HB : AtA w q (bv b) 30) (PW : Nat) (npPW : p ≠ PW) (nqPW : q ≠ PW) (HW : AtA w PW #[.bool true] 4) : Calls Tryz.prog 264 #[.pointer (some ⟨p, 0, none⟩), .pointer (some ⟨q, 0, none⟩), .pointer (some ⟨PW, 0, none⟩)] w (tellPost p q (neM true a b) w) := by
 show Calls Tryz.prog 264 #[.pointer (some ⟨p, 0, none⟩), .pointer (some ⟨q, 0, none⟩), .pointer (some ⟨PW, 0, none⟩)] w fun e w' => e = .returned (.bool true) ∧ AtA w' p (bv (outM true a b.ul b.uh)) 30 ∧ AtA w' q (bv (outM true b a.ul a.uh)) 30 ∧ GrL [p, q] w w'
 go_enter Tryz.func264, Tryz.ntmps264
 go_upto_region 0 with fail
 refine rG ?_
 refine sF rfl ?_
 refine wA (v := .bool false) rfl rfl ?_
 simp only [Act.put, zs, z0, z1]
 refine s_end ?_
 go_upto_region 1 with fail
 refine wp_region_inv (by kernel_rfl) (fun L ac wx => ∃ (p1_10 : Nat) (p1_11 : Nat), ac = ⟨(.pointer (some ⟨p, 0, none⟩) :: .pointer (some ⟨q, 0, none⟩) :: .pointer (some ⟨PW, 0, none⟩) :: undef :: undef :: .bool false :: sel (L 10) (.pointer (some ⟨p1_10, 0, none⟩)) (undef) :: sel (L 11) (.pointer (some ⟨p1_11, 0, none⟩)) (undef) :: sel (L 0) (.pointer (some ⟨p, 0, none⟩)) (undef) :: sel (L 1) (.bool true) (undef) :: sel (L 2) (.pointer (some ⟨p, 2, none⟩)) (undef) :: sel (L 3) (.pointer (some ⟨p, 2, none⟩)) (undef) :: sel (L 4) (.agg #[.int .u64 a.ul, .int .u64 a.uh]) (undef) :: sel (L 5) (.pointer (some ⟨q, 0, none⟩)) (undef) :: sel (L 6) (.bool true) (undef) :: sel (L 7) (.pointer (some ⟨q, 2, none⟩)) (undef) :: sel (L 8) (.pointer (some ⟨q, 2, none⟩)) (undef) :: sel (L 9) (.agg #[.int .u64 b.ul, .int .u64 b.uh]) (undef) :: undef :: undef :: undef :: undef :: undef :: undef :: undef :: undef :: [] : List Value).toArray, []⟩ ∧ GrL [] w wx ∧ (L 10 = true → w.heap.size ≤ p1_10 ∧ AtA wx p1_10 (sel (L 12) (#[.int .u64 a.ul, .int .u64 a.uh]) (#[.int .u64 0, .int .u64 0])) 26) ∧ (L 11 = true → w.heap.size ≤ p1_11 ∧ AtA wx p1_11 (sel (L 13) (#[.int .u64 b.ul, .int .u64 b.uh]) (#[.int .u64 0, .int .u64 0])) 26) ∧ (L 12 = true → L 10 = true) ∧ (L 13 = true → L 11 = true) ∧ (L 10 = true → L 11 = true → p1_10 ≠ p1_11)) (by kernel_rfl) ?h0 ?step ?fin
 case h0 => exact ⟨0, 0, rfl, GrL.of (Gr.drew (Gr.refl _)), (fun h => by cases h), (fun h => by cases h), (fun h => by cases h), (fun h => by cases h), (fun h => by cases h)⟩
 case step =>
  refine allOps_cons 0 ?_ ?_
  ·refine kF rfl ?_
   rintro L ac wx hL hd ⟨p1_10, p1_11, rfl, hG, f10, f11, s12, s13, g10_11⟩
   refine wM (v := .pointer (some ⟨p, 0, none⟩)) rfl rfl ?_
   exact ⟨p1_10, p1_11, rfl, hG, f10, f11, s12, s13, g10_11⟩
  refine allOps_cons 1 ?_ ?_
  ·refine kF rfl ?_
   rintro L ac wx hL hd ⟨p1_10, p1_11, rfl, hG, f10, f11, s12, s13, g10_11⟩
   have HL := (HW).grl hG n0
   refine wp_ld_bool (v := .bool true) rfl rfl (HL) rfl ?_
   exact ⟨p1_10, p1_11, rfl, hG, f10, f11, s12, s13, g10_11⟩
  refine allOps_cons 2 ?_ ?_
  ·refine kF rfl ?_
   rintro L ac wx hL hd ⟨p1_10, p1_11, rfl, hG, f10, f11, s12, s13, g10_11⟩
   obtain ⟨e0, e1, -⟩ := hd
   refine wp_call2 rfl (sel_of (e0 rfl)) (sel_of (e1 rfl)) (by go_simp) ?_
   refine ((fun w => k_spanOf_t p w) _).mono ?_
   rintro e w1 ⟨rfl, hg⟩
   refine ⟨_, rfl, ?_⟩
   exact ⟨p1_10, p1_11, rfl, hG.then hg, fun h => ⟨(f10 h).1, (f10 h).2.gr hg⟩, fun h => ⟨(f11 h).1, (f11 h).2.gr hg⟩, s12, s13, g10_11⟩
  refine allOps_cons 3 ?_ ?_
  ·refine kF rfl ?_
   rintro L ac wx hL hd ⟨p1_10, p1_11, rfl, hG, f10, f11, s12, s13, g10_11⟩
   obtain ⟨e0, -⟩ := hd
   refine wp_nil (r := ⟨p, 2, none⟩) rfl (sel_of (e0 rfl)) ?_
   exact ⟨p1_10, p1_11, rfl, hG, f10, f11, s12, s13, g10_11⟩
  refine allOps_cons 4 ?_ ?_
  ·refine kF rfl ?_
   rintro L ac wx hL hd ⟨p1_10, p1_11, rfl, hG, f10, f11, s12, s13, g10_11⟩
   obtain ⟨e0, -⟩ := hd
   have HL := (HA).grl hG n0
   refine wp_pU (v0 := .int .u64 a.ul) (v1 := .int .u64 a.uh) rfl (sel_of (e0 rfl)) (HL) rfl rfl ?_
   exact ⟨p1_10, p1_11, rfl, hG, f10, f11, s12, s13, g10_11⟩
  refine allOps_cons 5 ?_ ?_
  ·refine kF rfl ?_
   rintro L ac wx hL hd ⟨p1_10, p1_11, rfl, hG, f10, f11, s12, s13, g10_11⟩
   refine wM (v := .pointer (some ⟨q, 0, none⟩)) rfl rfl ?_
   exact ⟨p1_10, p1_11, rfl, hG, f10, f11, s12, s13, g10_11⟩
  refine allOps_cons 6 ?_ ?_
  ·refine kF rfl ?_
   rintro L ac wx hL hd ⟨p1_10, p1_11, rfl, hG, f10, f11, s12, s13, g10_11⟩
   have HL := (HW).grl hG n0
   refine wp_ld_bool (v := .bool true) rfl rfl (HL) rfl ?_
   exact ⟨p1_10, p1_11, rfl, hG, f10, f11, s12, s13, g10_11⟩
  refine allOps_cons 7 ?_ ?_
  ·refine kF rfl ?_
   rintro L ac wx hL hd ⟨p1_10, p1_11, rfl, hG, f10, f11, s12, s13, g10_11⟩
   obtain ⟨e0, e1, e2, -⟩ := hd
   refine wp_call2 rfl (sel_of (e0 rfl)) (sel_of (e1 rfl)) (by go_simp) ?_
   refine ((fun w => k_spanOf_t q w) _).mono ?_
   rintro e w1 ⟨rfl, hg⟩
   refine ⟨_, rfl, ?_⟩
   exact ⟨p1_10, p1_11, rfl, hG.then hg, fun h => ⟨(f10 h).1, (f10 h).2.gr hg⟩, fun h => ⟨(f11 h).1, (f11 h).2.gr hg⟩, s12, s13, g10_11⟩
  refine allOps_cons 8 ?_ ?_
  ·refine kF rfl ?_
   rintro L ac wx hL hd ⟨p1_10, p1_11, rfl, hG, f10, f11, s12, s13, g10_11⟩
   obtain ⟨e0, e1, -⟩ := hd
   refine wp_nil (r := ⟨q, 2, none⟩) rfl (sel_of (e0 rfl)) ?_
   exact ⟨p1_10, p1_11, rfl, hG, f10, f11, s12, s13, g10_11⟩
  refine allOps_cons 9 ?_ ?_
  ·refine kF rfl ?_
   rintro L ac wx hL hd ⟨p1_10, p1_11, rfl, hG, f10, f11, s12, s13, g10_11⟩
   obtain ⟨e0, e1, -⟩ := hd
   have HL := (HB).grl hG n0
   refine wp_pU (v0 := .int .u64 b.ul) (v1 := .int .u64 b.uh) rfl (sel_of (e0 rfl)) (HL) rfl rfl ?_
   exact ⟨p1_10, p1_11, rfl, hG, f10, f11, s12, s13, g10_11⟩
  refine allOps_cons 10 ?_ ?_
  ·refine kF rfl ?_
   rintro L ac wx hL hd ⟨p1_10, p1_11, rfl, hG, f10, f11, s12, s13, g10_11⟩
   have ls : L 12 = false := by
    cases h : L 12 with
    | false => rfl
    | true => have := s12 h; rw [hL] at this; cases this
   refine wp_al_S rfl ?_
   intro w1 hn hg
   exact ⟨wx.heap.size, p1_11, rfl, hG.then hg, fun _ => ⟨hG.size, by rw [show upd L 10 12 = false from ls]; exact hn⟩, fun h => ⟨(f11 h).1, (f11 h).2.gr hg⟩, fun _ => rfl, s13, fun _ h => by have z := (f11 h).2.lt; omega⟩
  refine allOps_cons 11 ?_ ?_
  ·refine kF rfl ?_
   rintro L ac wx hL hd ⟨p1_10, p1_11, rfl, hG, f10, f11, s12, s13, g10_11⟩
   have ls : L 13 = false := by
    cases h : L 13 with
    | false => rfl
    | true => have := s13 h; rw [hL] at this; cases this
   refine wp_al_S rfl ?_
   intro w1 hn hg
   exact ⟨p1_10, wx.heap.size, rfl, hG.then hg, fun h => ⟨(f10 h).1, (f10 h).2.gr hg⟩, fun _ => ⟨hG.size, by rw [show upd L 11 13 = false from ls]; exact hn⟩, s12, fun _ => rfl, fun h _ => by have z := (f10 h).2.lt; omega⟩
  refine allOps_cons 12 ?_ ?_
  ·refine kF rfl ?_
   rintro L ac wx hL hd ⟨p1_10, p1_11, rfl, hG, f10, f11, s12, s13, g10_11⟩
   obtain ⟨e0, e1, e2, e3, e4, e5, e6, e7, e8, e9, e10, e11, e12, e13, e14, -⟩ := hd
   have lp : L 10 = true := e0 rfl
   obtain ⟨k10, z10⟩ := f10 lp
   have HL := z10; rw [hL] at HL
   refine wp_storeU rfl (sel_of (e0 rfl)) (sel_of (e1 rfl)) HL ?_
   intro w1 hn hgx
   exact ⟨p1_10, p1_11, rfl, hG.thenx hgx (.inr k10), fun _ => ⟨k10, hn⟩, fun h => ⟨(f11 h).1, (f11 h).2.grx hgx (Ne.symm (g10_11 lp h))⟩, fun _ => lp, s13, g10_11⟩
  refine allOps_cons 13 ?_ ?_
  ·refine kF rfl ?_
   rintro L ac wx hL hd ⟨p1_10, p1_11, rfl, hG, f10, f11, s12, s13, g10_11⟩
   obtain ⟨e0, e1, e2, e3, e4, e5, e6, e7, e8, e9, e10, e11, e12, e13, e14, e15, -⟩ := hd
   have lp : L 11 = true := e0 rfl
   obtain ⟨k11, z11⟩ := f11 lp
   have HL := z11; rw [hL] at HL
   refine wp_storeU rfl (sel_of (e0 rfl)) (sel_of (e1 rfl)) HL ?_
   intro w1 hn hgx
   exact ⟨p1_10, p1_11, rfl, hG.thenx hgx (.inr k11), fun h => ⟨(f10 h).1, (f10 h).2.grx hgx (g10_11 h lp)⟩, fun _ => ⟨k11, hn⟩, s12, fun _ => lp, g10_11⟩
  exact allOps_nil 14
 case fin =>
  rintro L ac wf1 hall ⟨p1_10, p1_11, rfl, hG1, f10, f11, s12, s13, g10_11⟩
  have l0 : L 0 = true := hall 0 (by decide)
  have l1 : L 1 = true := hall 1 (by decide)
  have l2 : L 2 = true := hall 2 (by decide)
  have l3 : L 3 = true := hall 3 (by decide)
  have l4 : L 4 = true := hall 4 (by decide)
  have l5 : L 5 = true := hall 5 (by decide)
  have l6 : L 6 = true := hall 6 (by decide)
  have l7 : L 7 = true := hall 7 (by decide)
  have l8 : L 8 = true := hall 8 (by decide)
  have l9 : L 9 = true := hall 9 (by decide)
  have l10 : L 10 = true := hall 10 (by decide)
  have l11 : L 11 = true := hall 11 (by decide)
  have l12 : L 12 = true := hall 12 (by decide)
  have l13 : L 13 = true := hall 13 (by decide)
  obtain ⟨kp1_10, zp1_10⟩ := f10 l10
  rw [l12] at zp1_10
  change AtA wf1 p1_10 (#[.int .u64 a.ul, .int .u64 a.uh]) 26 at zp1_10
  obtain ⟨kp1_11, zp1_11⟩ := f11 l11
  rw [l13] at zp1_11
  change AtA wf1 p1_11 (#[.int .u64 b.ul, .int .u64 b.uh]) 26 at zp1_11
  have np1_10_p1_11 := g10_11 l10 l11
  simp only [l0, l1, l2, l3, l4, l5, l6, l7, l8, l9, l10, l11, sel_t]
  have np_p1_10 : p ≠ p1_10 := Nat.ne_of_lt (Nat.lt_of_lt_of_le (HA).lt kp1_10)
  have np_p1_11 : p ≠ p1_11 := Nat.ne_of_lt (Nat.lt_of_lt_of_le (HA).lt kp1_11)
  have nq_p1_10 : q ≠ p1_10 := Nat.ne_of_lt (Nat.lt_of_lt_of_le (HB).lt kp1_10)
  have nq_p1_11 : q ≠ p1_11 := Nat.ne_of_lt (Nat.lt_of_lt_of_le (HB).lt kp1_11)
  have nPW_p1_10 : PW ≠ p1_10 := Nat.ne_of_lt (Nat.lt_of_lt_of_le (HW).lt kp1_10)
  have nPW_p1_11 : PW ≠ p1_11 := Nat.ne_of_lt (Nat.lt_of_lt_of_le (HW).lt kp1_11)
  have frp1_10 := Nat.le_trans (GrL.refl [p, q] w).size kp1_10
  have frp1_11 := Nat.le_trans (GrL.refl [p, q] w).size kp1_11
  have hp_c1 := (HA).grl hG1 n0
  have hq_c1 := (HB).grl hG1 n0
  have hPW_c1 := (HW).grl hG1 n0
  have hF_c1 := (GrL.refl [p, q] w).app hG1 (r0 )
  clear l0 l1 l2 l3 l4 l5 l6 l7 l8 l9 l10 l11 l12 l13 hall f10 f11 s12 s13 g10_11
  go_upto_region 2 with fail
  refine rG ?_
  refine sF rfl ?_
  refine wM (v := .pointer (some ⟨p, 0, none⟩)) rfl rfl ?_
  simp only [Act.put, zs, z0, z1]
  refine sF rfl ?_
  refine wp_pU (v0 := .int .u64 b.ul) (v1 := .int .u64 b.uh) rfl rfl (zp1_11) rfl rfl ?_
  simp only [Act.put, zs, z0, z1]
  refine sF rfl ?_
  refine wp_ld_bool (v := .bool true) rfl rfl (hPW_c1) rfl ?_
  simp only [Act.put, zs, z0, z1]
  refine sF rfl ?_
  refine wp_call3 rfl rfl rfl rfl (by go_simp) ?_
  refine ((k_leaveOut_t a ga b.ul b.uh p _ hp_c1)).mono ?_
  rintro e wk2 ⟨rfl, hs2, gx2⟩
  refine ⟨_, rfl, ?_⟩
  have hq_2 := (hq_c1).grx gx2 (Ne.symm hpq)
  have hPW_2 := (hPW_c1).grx gx2 (Ne.symm npPW)
  have hp1_10_2 := (zp1_10).grx gx2 (Ne.symm np_p1_10)
  have hp1_11_2 := (zp1_11).grx gx2 (Ne.symm np_p1_11)
  have hF_2 := (hF_c1).thenx gx2 (.inl m21)
  simp only [Act.put, zs, z0, z1]
  refine s_end ?_
  go_upto_region 3 with fail
  refine rG ?_
  refine sF rfl ?_
  refine wM (v := .pointer (some ⟨q, 0, none⟩)) rfl rfl ?_
  simp only [Act.put, zs, z0, z1]
  refine sF rfl ?_
  refine wp_pU (v0 := .int .u64 a.ul) (v1 := .int .u64 a.uh) rfl rfl (hp1_10_2) rfl rfl ?_
  simp only [Act.put, zs, z0, z1]
  refine sF rfl ?_
  refine wp_ld_bool (v := .bool true) rfl rfl (hPW_2) rfl ?_
  simp only [Act.put, zs, z0, z1]
  refine sF rfl ?_
  refine wp_call3 rfl rfl rfl rfl (by go_simp) ?_
  refine ((k_leaveOut_t b gb a.ul a.uh q _ hq_2)).mono ?_
  rintro e wk3 ⟨rfl, hs3, gx3⟩
  refine ⟨_, rfl, ?_⟩
  have hp_3 := (hs2).grx gx3 hpq
  have hPW_3 := (hPW_2).grx gx3 (Ne.symm nqPW)
  have hp1_10_3 := (hp1_10_2).grx gx3 (Ne.symm nq_p1_10)
  have hp1_11_3 := (hp1_11_2).grx gx3 (Ne.symm nq_p1_11)
  have hF_3 := (hF_2).thenx gx3 (.inl m22)
  simp only [Act.put, zs, z0, z1]
  refine s_end ?_
  go_upto_region 4 with fail
  refine rG ?_
  refine sF rfl ?_
  refine wA (v := .bool true) rfl rfl ?_
  simp only [Act.put, zs, z0, z1]
  refine s_end ?_
  go_wp2
  go_ret
  exact ⟨rfl, hp_3, hs3, hF_3⟩
set_option maxHeartbeats 16000000 in
theorem tell_unlike_f (a b : Bd) (ga : Good a) (gb : Good b) (p q : Nat) (w : World) (hpq : p ≠ q) (HA : AtA w p (bv a) 30) (HB : AtA w q (bv b) 30) (PW : Nat) (npPW : p ≠ PW) (nqPW : q ≠ PW) (HW : AtA w PW #[.bool false] 4) : Calls Tryz.prog 264 #[.pointer (some ⟨p, 0, none⟩), .pointer (some ⟨q, 0, none⟩), .pointer (some ⟨PW, 0, none⟩)] w (tellPost p q (neM false a b) w) := by
 show Calls Tryz.prog 264 #[.pointer (some ⟨p, 0, none⟩), .pointer (some ⟨q, 0, none⟩), .pointer (some ⟨PW, 0, none⟩)] w fun e w' => e = .returned (.bool true) ∧ AtA w' p (bv (outM false a b.wl b.wh)) 30 ∧ AtA w' q (bv (outM false b a.wl a.wh)) 30 ∧ GrL [p, q] w w'
 go_enter Tryz.func264, Tryz.ntmps264
 go_upto_region 0 with fail
 refine rG ?_
 refine sF rfl ?_
 refine wA (v := .bool false) rfl rfl ?_
 simp only [Act.put, zs, z0, z1]
 refine s_end ?_
 go_upto_region 1 with fail
 refine wp_region_inv (by kernel_rfl) (fun L ac wx => ∃ (p1_10 : Nat) (p1_11 : Nat), ac = ⟨(.pointer (some ⟨p, 0, none⟩) :: .pointer (some ⟨q, 0, none⟩) :: .pointer (some ⟨PW, 0, none⟩) :: undef :: undef :: .bool false :: sel (L 10) (.pointer (some ⟨p1_10, 0, none⟩)) (undef) :: sel (L 11) (.pointer (some ⟨p1_11, 0, none⟩)) (undef) :: sel (L 0) (.pointer (some ⟨p, 0, none⟩)) (undef) :: sel (L 1) (.bool false) (undef) :: sel (L 2) (.pointer (some ⟨p, 6, none⟩)) (undef) :: sel (L 3) (.pointer (some ⟨p, 6, none⟩)) (undef) :: sel (L 4) (.agg #[.int .u64 a.wl, .int .u64 a.wh]) (undef) :: sel (L 5) (.pointer (some ⟨q, 0, none⟩)) (undef) :: sel (L 6) (.bool false) (undef) :: sel (L 7) (.pointer (some ⟨q, 6, none⟩)) (undef) :: sel (L 8) (.pointer (some ⟨q, 6, none⟩)) (undef) :: sel (L 9) (.agg #[.int .u64 b.wl, .int .u64 b.wh]) (undef) :: undef :: undef :: undef :: undef :: undef :: undef :: undef :: undef :: [] : List Value).toArray, []⟩ ∧ GrL [] w wx ∧ (L 10 = true → w.heap.size ≤ p1_10 ∧ AtA wx p1_10 (sel (L 12) (#[.int .u64 a.wl, .int .u64 a.wh]) (#[.int .u64 0, .int .u64 0])) 26) ∧ (L 11 = true → w.heap.size ≤ p1_11 ∧ AtA wx p1_11 (sel (L 13) (#[.int .u64 b.wl, .int .u64 b.wh]) (#[.int .u64 0, .int .u64 0])) 26) ∧ (L 12 = true → L 10 = true) ∧ (L 13 = true → L 11 = true) ∧ (L 10 = true → L 11 = true → p1_10 ≠ p1_11)) (by kernel_rfl) ?h0 ?step ?fin
 case h0 => exact ⟨0, 0, rfl, GrL.of (Gr.drew (Gr.refl _)), (fun h => by cases h), (fun h => by cases h), (fun h => by cases h), (fun h => by cases h), (fun h => by cases h)⟩
 case step =>
  refine allOps_cons 0 ?_ ?_
  ·refine kF rfl ?_
   rintro L ac wx hL hd ⟨p1_10, p1_11, rfl, hG, f10, f11, s12, s13, g10_11⟩
   refine wM (v := .pointer (some ⟨p, 0, none⟩)) rfl rfl ?_
   exact ⟨p1_10, p1_11, rfl, hG, f10, f11, s12, s13, g10_11⟩
  refine allOps_cons 1 ?_ ?_
  ·refine kF rfl ?_
   rintro L ac wx hL hd ⟨p1_10, p1_11, rfl, hG, f10, f11, s12, s13, g10_11⟩
   have HL := (HW).grl hG n0
   refine wp_ld_bool (v := .bool false) rfl rfl (HL) rfl ?_
   exact ⟨p1_10, p1_11, rfl, hG, f10, f11, s12, s13, g10_11⟩
  refine allOps_cons 2 ?_ ?_
  ·refine kF rfl ?_
   rintro L ac wx hL hd ⟨p1_10, p1_11, rfl, hG, f10, f11, s12, s13, g10_11⟩
   obtain ⟨e0, e1, -⟩ := hd
   refine wp_call2 rfl (sel_of (e0 rfl)) (sel_of (e1 rfl)) (by go_simp) ?_
   refine ((fun w => k_spanOf_f p w) _).mono ?_
   rintro e w1 ⟨rfl, hg⟩
   refine ⟨_, rfl, ?_⟩
   exact ⟨p1_10, p1_11, rfl, hG.then hg, fun h => ⟨(f10 h).1, (f10 h).2.gr hg⟩, fun h => ⟨(f11 h).1, (f11 h).2.gr hg⟩, s12, s13, g10_11⟩
  refine allOps_cons 3 ?_ ?_
  ·refine kF rfl ?_
   rintro L ac wx hL hd ⟨p1_10, p1_11, rfl, hG, f10, f11, s12, s13, g10_11⟩
   obtain ⟨e0, -⟩ := hd
   refine wp_nil (r := ⟨p, 6, none⟩) rfl (sel_of (e0 rfl)) ?_
   exact ⟨p1_10, p1_11, rfl, hG, f10, f11, s12, s13, g10_11⟩
  refine allOps_cons 4 ?_ ?_
  ·refine kF rfl ?_
   rintro L ac wx hL hd ⟨p1_10, p1_11, rfl, hG, f10, f11, s12, s13, g10_11⟩
   obtain ⟨e0, -⟩ := hd
   have HL := (HA).grl hG n0
   refine wp_pU (v0 := .int .u64 a.wl) (v1 := .int .u64 a.wh) rfl (sel_of (e0 rfl)) (HL) rfl rfl ?_
   exact ⟨p1_10, p1_11, rfl, hG, f10, f11, s12, s13, g10_11⟩
  refine allOps_cons 5 ?_ ?_
  ·refine kF rfl ?_
   rintro L ac wx hL hd ⟨p1_10, p1_11, rfl, hG, f10, f11, s12, s13, g10_11⟩
   refine wM (v := .pointer (some ⟨q, 0, none⟩)) rfl rfl ?_
   exact ⟨p1_10, p1_11, rfl, hG, f10, f11, s12, s13, g10_11⟩
  refine allOps_cons 6 ?_ ?_
  ·refine kF rfl ?_
   rintro L ac wx hL hd ⟨p1_10, p1_11, rfl, hG, f10, f11, s12, s13, g10_11⟩
   have HL := (HW).grl hG n0
   refine wp_ld_bool (v := .bool false) rfl rfl (HL) rfl ?_
   exact ⟨p1_10, p1_11, rfl, hG, f10, f11, s12, s13, g10_11⟩
  refine allOps_cons 7 ?_ ?_
  ·refine kF rfl ?_
   rintro L ac wx hL hd ⟨p1_10, p1_11, rfl, hG, f10, f11, s12, s13, g10_11⟩
   obtain ⟨e0, e1, e2, -⟩ := hd
   refine wp_call2 rfl (sel_of (e0 rfl)) (sel_of (e1 rfl)) (by go_simp) ?_
   refine ((fun w => k_spanOf_f q w) _).mono ?_
   rintro e w1 ⟨rfl, hg⟩
   refine ⟨_, rfl, ?_⟩
   exact ⟨p1_10, p1_11, rfl, hG.then hg, fun h => ⟨(f10 h).1, (f10 h).2.gr hg⟩, fun h => ⟨(f11 h).1, (f11 h).2.gr hg⟩, s12, s13, g10_11⟩
  refine allOps_cons 8 ?_ ?_
  ·refine kF rfl ?_
   rintro L ac wx hL hd ⟨p1_10, p1_11, rfl, hG, f10, f11, s12, s13, g10_11⟩
   obtain ⟨e0, e1, -⟩ := hd
   refine wp_nil (r := ⟨q, 6, none⟩) rfl (sel_of (e0 rfl)) ?_
   exact ⟨p1_10, p1_11, rfl, hG, f10, f11, s12, s13, g10_11⟩
  refine allOps_cons 9 ?_ ?_
  ·refine kF rfl ?_
   rintro L ac wx hL hd ⟨p1_10, p1_11, rfl, hG, f10, f11, s12, s13, g10_11⟩
   obtain ⟨e0, e1, -⟩ := hd
   have HL := (HB).grl hG n0
   refine wp_pU (v0 := .int .u64 b.wl) (v1 := .int .u64 b.wh) rfl (sel_of (e0 rfl)) (HL) rfl rfl ?_
   exact ⟨p1_10, p1_11, rfl, hG, f10, f11, s12, s13, g10_11⟩
  refine allOps_cons 10 ?_ ?_
  ·refine kF rfl ?_
   rintro L ac wx hL hd ⟨p1_10, p1_11, rfl, hG, f10, f11, s12, s13, g10_11⟩
   have ls : L 12 = false := by
    cases h : L 12 with
    | false => rfl
    | true => have := s12 h; rw [hL] at this; cases this
   refine wp_al_S rfl ?_
   intro w1 hn hg
   exact ⟨wx.heap.size, p1_11, rfl, hG.then hg, fun _ => ⟨hG.size, by rw [show upd L 10 12 = false from ls]; exact hn⟩, fun h => ⟨(f11 h).1, (f11 h).2.gr hg⟩, fun _ => rfl, s13, fun _ h => by have z := (f11 h).2.lt; omega⟩
  refine allOps_cons 11 ?_ ?_
  ·refine kF rfl ?_
   rintro L ac wx hL hd ⟨p1_10, p1_11, rfl, hG, f10, f11, s12, s13, g10_11⟩
   have ls : L 13 = false := by
    cases h : L 13 with
    | false => rfl
    | true => have := s13 h; rw [hL] at this; cases this
   refine wp_al_S rfl ?_
   intro w1 hn hg
   exact ⟨p1_10, wx.heap.size, rfl, hG.then hg, fun h => ⟨(f10 h).1, (f10 h).2.gr hg⟩, fun _ => ⟨hG.size, by rw [show upd L 11 13 = false from ls]; exact hn⟩, s12, fun _ => rfl, fun h _ => by have z := (f10 h).2.lt; omega⟩
  refine allOps_cons 12 ?_ ?_
  ·refine kF rfl ?_
   rintro L ac wx hL hd ⟨p1_10, p1_11, rfl, hG, f10, f11, s12, s13, g10_11⟩
   obtain ⟨e0, e1, e2, e3, e4, e5, e6, e7, e8, e9, e10, e11, e12, e13, e14, -⟩ := hd
   have lp : L 10 = true := e0 rfl
   obtain ⟨k10, z10⟩ := f10 lp
   have HL := z10; rw [hL] at HL
   refine wp_storeU rfl (sel_of (e0 rfl)) (sel_of (e1 rfl)) HL ?_
   intro w1 hn hgx
   exact ⟨p1_10, p1_11, rfl, hG.thenx hgx (.inr k10), fun _ => ⟨k10, hn⟩, fun h => ⟨(f11 h).1, (f11 h).2.grx hgx (Ne.symm (g10_11 lp h))⟩, fun _ => lp, s13, g10_11⟩
  refine allOps_cons 13 ?_ ?_
  ·refine kF rfl ?_
   rintro L ac wx hL hd ⟨p1_10, p1_11, rfl, hG, f10, f11, s12, s13, g10_11⟩
   obtain ⟨e0, e1, e2, e3, e4, e5, e6, e7, e8, e9, e10, e11, e12, e13, e14, e15, -⟩ := hd
   have lp : L 11 = true := e0 rfl
   obtain ⟨k11, z11⟩ := f11 lp
   have HL := z11; rw [hL] at HL
   refine wp_storeU rfl (sel_of (e0 rfl)) (sel_of (e1 rfl)) HL ?_
   intro w1 hn hgx
   exact ⟨p1_10, p1_11, rfl, hG.thenx hgx (.inr k11), fun h => ⟨(f10 h).1, (f10 h).2.grx hgx (g10_11 h lp)⟩, fun _ => ⟨k11, hn⟩, s12, fun _ => lp, g10_11⟩
  exact allOps_nil 14
 case fin =>
  rintro L ac wf1 hall ⟨p1_10, p1_11, rfl, hG1, f10, f11, s12, s13, g10_11⟩
  have l0 : L 0 = true := hall 0 (by decide)
  have l1 : L 1 = true := hall 1 (by decide)
  have l2 : L 2 = true := hall 2 (by decide)
  have l3 : L 3 = true := hall 3 (by decide)
  have l4 : L 4 = true := hall 4 (by decide)
  have l5 : L 5 = true := hall 5 (by decide)
  have l6 : L 6 = true := hall 6 (by decide)
  have l7 : L 7 = true := hall 7 (by decide)
  have l8 : L 8 = true := hall 8 (by decide)
  have l9 : L 9 = true := hall 9 (by decide)
  have l10 : L 10 = true := hall 10 (by decide)
  have l11 : L 11 = true := hall 11 (by decide)
  have l12 : L 12 = true := hall 12 (by decide)
  have l13 : L 13 = true := hall 13 (by decide)
  obtain ⟨kp1_10, zp1_10⟩ := f10 l10
  rw [l12] at zp1_10
  change AtA wf1 p1_10 (#[.int .u64 a.wl, .int .u64 a.wh]) 26 at zp1_10
  obtain ⟨kp1_11, zp1_11⟩ := f11 l11
  rw [l13] at zp1_11
  change AtA wf1 p1_11 (#[.int .u64 b.wl, .int .u64 b.wh]) 26 at zp1_11
  have np1_10_p1_11 := g10_11 l10 l11
  simp only [l0, l1, l2, l3, l4, l5, l6, l7, l8, l9, l10, l11, sel_t]
  have np_p1_10 : p ≠ p1_10 := Nat.ne_of_lt (Nat.lt_of_lt_of_le (HA).lt kp1_10)
  have np_p1_11 : p ≠ p1_11 := Nat.ne_of_lt (Nat.lt_of_lt_of_le (HA).lt kp1_11)
  have nq_p1_10 : q ≠ p1_10 := Nat.ne_of_lt (Nat.lt_of_lt_of_le (HB).lt kp1_10)
  have nq_p1_11 : q ≠ p1_11 := Nat.ne_of_lt (Nat.lt_of_lt_of_le (HB).lt kp1_11)
  have nPW_p1_10 : PW ≠ p1_10 := Nat.ne_of_lt (Nat.lt_of_lt_of_le (HW).lt kp1_10)
  have nPW_p1_11 : PW ≠ p1_11 := Nat.ne_of_lt (Nat.lt_of_lt_of_le (HW).lt kp1_11)
  have frp1_10 := Nat.le_trans (GrL.refl [p, q] w).size kp1_10
  have frp1_11 := Nat.le_trans (GrL.refl [p, q] w).size kp1_11
  have hp_c1 := (HA).grl hG1 n0
  have hq_c1 := (HB).grl hG1 n0
  have hPW_c1 := (HW).grl hG1 n0
  have hF_c1 := (GrL.refl [p, q] w).app hG1 (r0 )
  clear l0 l1 l2 l3 l4 l5 l6 l7 l8 l9 l10 l11 l12 l13 hall f10 f11 s12 s13 g10_11
  go_upto_region 2 with fail
  refine rG ?_
  refine sF rfl ?_
  refine wM (v := .pointer (some ⟨p, 0, none⟩)) rfl rfl ?_
  simp only [Act.put, zs, z0, z1]
  refine sF rfl ?_
  refine wp_pU (v0 := .int .u64 b.wl) (v1 := .int .u64 b.wh) rfl rfl (zp1_11) rfl rfl ?_
  simp only [Act.put, zs, z0, z1]
  refine sF rfl ?_
  refine wp_ld_bool (v := .bool false) rfl rfl (hPW_c1) rfl ?_
  simp only [Act.put, zs, z0, z1]
  refine sF rfl ?_
  refine wp_call3 rfl rfl rfl rfl (by go_simp) ?_
  refine ((k_leaveOut_f a ga b.wl b.wh p _ hp_c1)).mono ?_
  rintro e wk2 ⟨rfl, hs2, gx2⟩
  refine ⟨_, rfl, ?_⟩
  have hq_2 := (hq_c1).grx gx2 (Ne.symm hpq)
  have hPW_2 := (hPW_c1).grx gx2 (Ne.symm npPW)
  have hp1_10_2 := (zp1_10).grx gx2 (Ne.symm np_p1_10)
  have hp1_11_2 := (zp1_11).grx gx2 (Ne.symm np_p1_11)
  have hF_2 := (hF_c1).thenx gx2 (.inl m21)
  simp only [Act.put, zs, z0, z1]
  refine s_end ?_
  go_upto_region 3 with fail
  refine rG ?_
  refine sF rfl ?_
  refine wM (v := .pointer (some ⟨q, 0, none⟩)) rfl rfl ?_
  simp only [Act.put, zs, z0, z1]
  refine sF rfl ?_
  refine wp_pU (v0 := .int .u64 a.wl) (v1 := .int .u64 a.wh) rfl rfl (hp1_10_2) rfl rfl ?_
  simp only [Act.put, zs, z0, z1]
  refine sF rfl ?_
  refine wp_ld_bool (v := .bool false) rfl rfl (hPW_2) rfl ?_
  simp only [Act.put, zs, z0, z1]
  refine sF rfl ?_
  refine wp_call3 rfl rfl rfl rfl (by go_simp) ?_
  refine ((k_leaveOut_f b gb a.wl a.wh q _ hq_2)).mono ?_
  rintro e wk3 ⟨rfl, hs3, gx3⟩
  refine ⟨_, rfl, ?_⟩
  have hp_3 := (hs2).grx gx3 hpq
  have hPW_3 := (hPW_2).grx gx3 (Ne.symm nqPW)
  have hp1_10_3 := (hp1_10_2).grx gx3 (Ne.symm nq_p1_10)
  have hp1_11_3 := (hp1_11_2).grx gx3 (Ne.symm nq_p1_11)
  have hF_3 := (hF_2).thenx gx3 (.inl m22)
  simp only [Act.put, zs, z0, z1]
  refine s_end ?_
  go_upto_region 4 with fail
  refine rG ?_
  refine sF rfl ?_
  refine wA (v := .bool true) rfl rfl ?_
  simp only [Act.put, zs, z0, z1]
  refine s_end ?_
  go_wp2
  go_ret
  exact ⟨rfl, hp_3, hs3, hF_3⟩
end Go.Proofs.YtcbcijibgpaipaaGreat
