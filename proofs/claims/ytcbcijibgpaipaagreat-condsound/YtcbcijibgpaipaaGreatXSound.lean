/- Towards the statement CondSound: its walk. -/
import Derived.Test.YtcbcijibgpaipaaGreatCZ
import Derived.Deep.DeepCutAuto
namespace Go.Proofs.YtcbcijibgpaipaaGreat
open Go.ChangeShapes Go.WideShapes Go.ChangeAt Go.RowKit
open Tn (iv)
set_option linter.unusedVariables false
set_option linter.unusedSimpArgs false
set_option maxRecDepth 20000

theorem wp_eqK {o : Oper} {a : Act} {w : World} {K : Act → World → Prop} {Q : Exit → Act → World → Prop} {x : Operand} (ho : o.op = .binOp .eql 44 x (.const (.int .i64 0)) 44) (hx : a.eval x = .int .i64 0) (hK : K (a.put o.dst (.bool true)) w) : o.wp Tryz.prog a w K Q := by
 obtain ⟨dst, op, ty, pos, after, guard⟩ := o
 subst ho
 unfold Oper.wp
 simp only [execOp, hx]
 go_simp
 exact hK
theorem wp_neK {o : Oper} {a : Act} {w : World} {K : Act → World → Prop} {Q : Exit → Act → World → Prop} {x : Operand} (ho : o.op = .binOp .neq 44 x (.const (.int .i64 0)) 44) (hx : a.eval x = .int .i64 0) (hK : K (a.put o.dst (.bool false)) w) : o.wp Tryz.prog a w K Q := by
 obtain ⟨dst, op, ty, pos, after, guard⟩ := o
 subst ho
 unfold Oper.wp
 simp only [execOp, hx]
 go_simp
 exact hK
theorem wp_eqB_t {o : Oper} {a : Act} {w : World} {K : Act → World → Prop} {Q : Exit → Act → World → Prop} {x y : Operand} (ho : o.op = .binOp .eql 4 x y 4) (hx : a.eval x = .bool true) (hy : a.eval y = .bool true) (hK : K (a.put o.dst (.bool true)) w) : o.wp Tryz.prog a w K Q := by
 obtain ⟨dst, op, ty, pos, after, guard⟩ := o
 subst ho
 unfold Oper.wp
 simp only [execOp, hx, hy]
 go_simp
 exact hK
theorem wp_eqB_f {o : Oper} {a : Act} {w : World} {K : Act → World → Prop} {Q : Exit → Act → World → Prop} {x y : Operand} (ho : o.op = .binOp .eql 4 x y 4) (hx : a.eval x = .bool false) (hy : a.eval y = .bool false) (hK : K (a.put o.dst (.bool true)) w) : o.wp Tryz.prog a w K Q := by
 obtain ⟨dst, op, ty, pos, after, guard⟩ := o
 subst ho
 unfold Oper.wp
 simp only [execOp, hx, hy]
 go_simp
 exact hK
theorem gw_of {w w' : World} (h : Wd.Gr w w') : Gr w w' := ⟨h.below, h.grown⟩
theorem errA_code {d : Int} (h : codeM d) : Wd.errA d = 0 := by
 rcases h with rfl | rfl | rfl | rfl | rfl | rfl | rfl | rfl | rfl | rfl | rfl | rfl <;> rfl
theorem codeM_nn {d : Int} (h : codeM d) : 0 ≤ d := by
 rcases h with rfl | rfl | rfl | rfl | rfl | rfl | rfl | rfl | rfl | rfl | rfl | rfl <;> decide
theorem iv_in (z : BitVec 64) : 0 ≤ iv z ∧ iv z ≤ 18446744073709551615 := inU_iv z
set_option maxHeartbeats 16000000 in
theorem sound_law (u v : Ab) (hu : AbOk u) (hv : AbOk v) (x y : BitVec 64) (c : Int) (h0 : 0 ≤ c) (h1 : c ≤ 255) (wd : Bool) (w : World) : Calls Tryz.prog 6 #[.int .u64 (iv x), .int .u64 (iv y), .agg #[.int .u64 (iv u.ma), .int .u64 u.dn, .int .u64 u.up, .int .u64 u.ls, .int .u64 u.mo, .int .u32 u.hf, .int .u32 u.tp], .agg #[.int .u64 (iv v.ma), .int .u64 v.dn, .int .u64 v.up, .int .u64 v.ls, .int .u64 v.mo, .int .u32 v.hf, .int .u32 v.tp], .int .u8 c, .bool wd] w fun e w' => e = .returned (.bool true) ∧ Gr w w' := by
 obtain ⟨d, hd, cd⟩ := k_codes c h0 h1
 go_enter Tryz.func6, Tryz.ntmps6
 go_upto_region 1 with fail
 have HA : AtA ((w.alloc (.cells #[.int .u64 (iv u.ma), .int .u64 u.dn, .int .u64 u.up, .int .u64 u.ls, .int .u64 u.mo, .int .u32 u.hf, .int .u32 u.tp] 43)).alloc (.cells #[.int .u64 (iv v.ma), .int .u64 v.dn, .int .u64 v.up, .int .u64 v.ls, .int .u64 v.mo, .int .u32 v.hf, .int .u32 v.tp] 43)) w.heap.size (av u) 43 := (AtA.newb _ rfl _ _).alloc _
 have HB : AtA ((w.alloc (.cells #[.int .u64 (iv u.ma), .int .u64 u.dn, .int .u64 u.up, .int .u64 u.ls, .int .u64 u.mo, .int .u32 u.hf, .int .u32 u.tp] 43)).alloc (.cells #[.int .u64 (iv v.ma), .int .u64 v.dn, .int .u64 v.up, .int .u64 v.ls, .int .u64 v.mo, .int .u32 v.hf, .int .u32 v.tp] 43)) (w.heap.size + 1) (av v) 43 := AtA.newb _ (by simp) _ _
 have HF : Gr w ((w.alloc (.cells #[.int .u64 (iv u.ma), .int .u64 u.dn, .int .u64 u.up, .int .u64 u.ls, .int .u64 u.mo, .int .u32 u.hf, .int .u32 u.tp] 43)).alloc (.cells #[.int .u64 (iv v.ma), .int .u64 v.dn, .int .u64 v.up, .int .u64 v.ls, .int .u64 v.mo, .int .u32 v.hf, .int .u32 v.tp] 43)) := Gr.alloc (Gr.alloc (Gr.refl w) _ _) _ _
 revert HA HB HF
 generalize ((w.alloc (.cells #[.int .u64 (iv u.ma), .int .u64 u.dn, .int .u64 u.up, .int .u64 u.ls, .int .u64 u.mo, .int .u32 u.hf, .int .u32 u.tp] 43)).alloc (.cells #[.int .u64 (iv v.ma), .int .u64 v.dn, .int .u64 v.up, .int .u64 v.ls, .int .u64 v.mo, .int .u32 v.hf, .int .u32 v.tp] 43)) = W0
 generalize w.heap.size + 1 = XB
 generalize w.heap.size = XA
 intro HA HB HF
 go_cut [13, 14] (fun c13 c14 wx => ∃ (p1_8 : Nat) (p1_9 : Nat) (B1_2 : Bd) (B1_6 : Bd), c13 = .pointer (some ⟨p1_8, 0, none⟩) ∧ c14 = .pointer (some ⟨p1_9, 0, none⟩) ∧ Good B1_2 ∧ Has B1_2 x ∧ Good B1_6 ∧ Has B1_6 y ∧ AtA wx p1_8 (bv (syncM B1_2)) 30 ∧ AtA wx p1_9 (bv (syncM B1_6)) 30 ∧ p1_8 ≠ p1_9 ∧ W0.heap.size ≤ p1_8 ∧ W0.heap.size ≤ p1_9 ∧ Gr W0 wx)
 case first =>
  rename_i J K2 hJ hK2
  refine wp_region_inv (by kernel_rfl) (fun L ac wx => ∃ (y28 y29 y30 y31 y32 y33 y34 y35 y13 y14 : Value) (B1_2 : Bd) (B1_6 : Bd) (p1_8 : Nat) (p1_9 : Nat), ac = ⟨(.int .u64 (iv x) :: .int .u64 (iv y) :: .agg (av u) :: .agg (av v) :: .int .u8 c :: .bool wd :: undef :: undef :: .pointer (some ⟨XA, 0, none⟩) :: .pointer (some ⟨XB, 0, none⟩) :: undef :: undef :: .bool false :: y13 :: y14 :: undef :: undef :: undef :: undef :: undef :: undef :: undef :: undef :: undef :: undef :: undef :: undef :: undef :: y28 :: y29 :: y30 :: y31 :: y32 :: y33 :: y34 :: y35 :: undef :: undef :: undef :: undef :: undef :: undef :: undef :: undef :: undef :: undef :: undef :: undef :: undef :: undef :: undef :: undef :: undef :: undef :: undef :: undef :: undef :: undef :: undef :: undef :: undef :: undef :: undef :: undef :: undef :: undef :: undef :: undef :: undef :: undef :: undef :: undef :: undef :: undef :: undef :: undef :: undef :: undef :: undef :: undef :: undef :: undef :: undef :: undef :: undef :: undef :: undef :: undef :: undef :: undef :: undef :: undef :: undef :: undef :: undef :: undef :: undef :: undef :: undef :: undef :: undef :: undef :: undef :: undef :: undef :: undef :: undef :: undef :: undef :: undef :: undef :: undef :: undef :: undef :: undef :: undef :: undef :: undef :: undef :: undef :: undef :: undef :: undef :: undef :: undef :: undef :: undef :: undef :: undef :: undef :: undef :: undef :: undef :: undef :: undef :: undef :: undef :: undef :: undef :: undef :: undef :: undef :: undef :: undef :: undef :: undef :: undef :: undef :: undef :: undef :: undef :: undef :: undef :: undef :: undef :: undef :: undef :: [] : List Value).toArray, []⟩ ∧ Gr W0 wx ∧ (L 0 = true → y28 = .agg (av u)) ∧ (L 1 = true → y29 = .int .u64 (iv x)) ∧ (L 2 = true → Good B1_2 ∧ Has B1_2 x ∧ y30 = .agg (bv B1_2)) ∧ (L 3 = true → L 2 = true ∧ y31 = .agg (bv (syncM B1_2))) ∧ (L 4 = true → y32 = .agg (av v)) ∧ (L 5 = true → y33 = .int .u64 (iv y)) ∧ (L 6 = true → Good B1_6 ∧ Has B1_6 y ∧ y34 = .agg (bv B1_6)) ∧ (L 7 = true → L 6 = true ∧ y35 = .agg (bv (syncM B1_6))) ∧ (L 8 = true → y13 = .pointer (some ⟨p1_8, 0, none⟩) ∧ W0.heap.size ≤ p1_8 ∧ AtA wx p1_8 (bv (sel (L 10) (syncM B1_2) zeroM)) 30) ∧ (L 9 = true → y14 = .pointer (some ⟨p1_9, 0, none⟩) ∧ W0.heap.size ≤ p1_9 ∧ AtA wx p1_9 (bv (sel (L 11) (syncM B1_6) zeroM)) 30) ∧ (L 10 = true → L 3 = true ∧ L 8 = true) ∧ (L 11 = true → L 7 = true ∧ L 9 = true) ∧ (L 8 = true → L 9 = true → p1_8 ≠ p1_9)) (by kernel_rfl) ?h0 ?step ?fin
  case h0 => exact ⟨undef, undef, undef, undef, undef, undef, undef, undef, undef, undef, zeroM, zeroM, 0, 0, rfl, Gr.drew (Gr.refl _), (fun h => by cases h), (fun h => by cases h), (fun h => by cases h), (fun h => by cases h), (fun h => by cases h), (fun h => by cases h), (fun h => by cases h), (fun h => by cases h), (fun h => by cases h), (fun h => by cases h), (fun h => by cases h), (fun h => by cases h), (fun h => by cases h)⟩
  case step =>
   refine allOps_cons 0 ?_ ?_
   ·refine kF rfl ?_
    rintro L ac wx hL hd ⟨y28, y29, y30, y31, y32, y33, y34, y35, y13, y14, B1_2, B1_6, p1_8, p1_9, rfl, hG, f0, f1, f2, f3, f4, f5, f6, f7, f8, f9, f10, f11, g8_9⟩
    refine wp_loadA rfl rfl ((HA).gr hG) ?_
    exact ⟨.agg (av u), y29, y30, y31, y32, y33, y34, y35, y13, y14, B1_2, B1_6, p1_8, p1_9, rfl, hG, fun _ => rfl, f1, f2, f3, f4, f5, f6, f7, f8, f9, f10, f11, g8_9⟩
   refine allOps_cons 1 ?_ ?_
   ·refine kF rfl ?_
    rintro L ac wx hL hd ⟨y28, y29, y30, y31, y32, y33, y34, y35, y13, y14, B1_2, B1_6, p1_8, p1_9, rfl, hG, f0, f1, f2, f3, f4, f5, f6, f7, f8, f9, f10, f11, g8_9⟩
    refine wM rfl rfl ?_
    exact ⟨y28, .int .u64 (iv x), y30, y31, y32, y33, y34, y35, y13, y14, B1_2, B1_6, p1_8, p1_9, rfl, hG, f0, fun _ => rfl, f2, f3, f4, f5, f6, f7, f8, f9, f10, f11, g8_9⟩
   refine allOps_cons 2 ?_ ?_
   ·refine kF rfl ?_
    rintro L ac wx hL hd ⟨y28, y29, y30, y31, y32, y33, y34, y35, y13, y14, B1_2, B1_6, p1_8, p1_9, rfl, hG, f0, f1, f2, f3, f4, f5, f6, f7, f8, f9, f10, f11, g8_9⟩
    obtain ⟨e0, e1, -⟩ := hd
    have h0 := f0 (e0 rfl); subst h0
    have h1 := f1 (e1 rfl); subst h1
    have l3 : L 3 = false := by
     cases h : L 3 with
     | false => rfl
     | true => have := (f3 h).1; rw [hL] at this; cases this
    have l10 : L 10 = false := by
     cases h : L 10 with
     | false => rfl
     | true => have := (f10 h).1; rw [l3] at this; cases this
    refine wp_call2 rfl rfl rfl (by go_simp) ?_
    refine (k_of u hu x _).mono ?_
    rintro e w1 ⟨B, gB, kB, rfl, hg⟩
    refine ⟨_, rfl, ?_⟩
    exact ⟨_, _, _, y31, y32, y33, y34, y35, y13, y14, B, B1_6, p1_8, p1_9, rfl, hG.trans hg, fun _ => rfl, fun _ => rfl, fun _ => ⟨gB, kB, rfl⟩, (fun h => absurd (show L 3 = true from h) (by rw [l3]; decide)), f4, f5, f6, f7, fun h => let ⟨z1, z2, z3⟩ := f8 h; ⟨z1, z2, by rw [l10] at z3; rw [show upd L 2 10 = false from l10]; exact z3.gr hg⟩, fun h => let ⟨z1, z2, z3⟩ := f9 h; ⟨z1, z2, z3.gr hg⟩, (fun h => absurd (show L 10 = true from h) (by rw [l10]; decide)), f11, g8_9⟩
   refine allOps_cons 3 ?_ ?_
   ·refine kF rfl ?_
    rintro L ac wx hL hd ⟨y28, y29, y30, y31, y32, y33, y34, y35, y13, y14, B1_2, B1_6, p1_8, p1_9, rfl, hG, f0, f1, f2, f3, f4, f5, f6, f7, f8, f9, f10, f11, g8_9⟩
    obtain ⟨e0, e1, -⟩ := hd
    obtain ⟨y2_0, y2_1, h2⟩ := f2 (e0 rfl); subst h2
    have l10 : L 10 = false := by
     cases h : L 10 with
     | false => rfl
     | true => have := (f10 h).1; rw [hL] at this; cases this
    refine wp_call1 rfl rfl (by go_simp) ?_
    refine (k_sync B1_2 _ y2_0).mono ?_
    rintro e w1 ⟨rfl, hg⟩
    refine ⟨_, rfl, ?_⟩
    exact ⟨y28, y29, _, _, y32, y33, y34, y35, y13, y14, B1_2, B1_6, p1_8, p1_9, rfl, hG.trans hg, f0, f1, fun _ => ⟨y2_0, y2_1, rfl⟩, fun _ => ⟨e0 rfl, rfl⟩, f4, f5, f6, f7, fun h => let ⟨z1, z2, z3⟩ := f8 h; ⟨z1, z2, by rw [l10] at z3; rw [show upd L 3 10 = false from l10]; exact z3.gr hg⟩, fun h => let ⟨z1, z2, z3⟩ := f9 h; ⟨z1, z2, z3.gr hg⟩, (fun h => absurd (show L 10 = true from h) (by rw [l10]; decide)), f11, g8_9⟩
   refine allOps_cons 4 ?_ ?_
   ·refine kF rfl ?_
    rintro L ac wx hL hd ⟨y28, y29, y30, y31, y32, y33, y34, y35, y13, y14, B1_2, B1_6, p1_8, p1_9, rfl, hG, f0, f1, f2, f3, f4, f5, f6, f7, f8, f9, f10, f11, g8_9⟩
    refine wp_loadA rfl rfl ((HB).gr hG) ?_
    exact ⟨y28, y29, y30, y31, .agg (av v), y33, y34, y35, y13, y14, B1_2, B1_6, p1_8, p1_9, rfl, hG, f0, f1, f2, f3, fun _ => rfl, f5, f6, f7, f8, f9, f10, f11, g8_9⟩
   refine allOps_cons 5 ?_ ?_
   ·refine kF rfl ?_
    rintro L ac wx hL hd ⟨y28, y29, y30, y31, y32, y33, y34, y35, y13, y14, B1_2, B1_6, p1_8, p1_9, rfl, hG, f0, f1, f2, f3, f4, f5, f6, f7, f8, f9, f10, f11, g8_9⟩
    refine wM rfl rfl ?_
    exact ⟨y28, y29, y30, y31, y32, .int .u64 (iv y), y34, y35, y13, y14, B1_2, B1_6, p1_8, p1_9, rfl, hG, f0, f1, f2, f3, f4, fun _ => rfl, f6, f7, f8, f9, f10, f11, g8_9⟩
   refine allOps_cons 6 ?_ ?_
   ·refine kF rfl ?_
    rintro L ac wx hL hd ⟨y28, y29, y30, y31, y32, y33, y34, y35, y13, y14, B1_2, B1_6, p1_8, p1_9, rfl, hG, f0, f1, f2, f3, f4, f5, f6, f7, f8, f9, f10, f11, g8_9⟩
    obtain ⟨e0, e1, e2, -⟩ := hd
    have h4 := f4 (e0 rfl); subst h4
    have h5 := f5 (e1 rfl); subst h5
    have l7 : L 7 = false := by
     cases h : L 7 with
     | false => rfl
     | true => have := (f7 h).1; rw [hL] at this; cases this
    have l11 : L 11 = false := by
     cases h : L 11 with
     | false => rfl
     | true => have := (f11 h).1; rw [l7] at this; cases this
    refine wp_call2 rfl rfl rfl (by go_simp) ?_
    refine (k_of v hv y _).mono ?_
    rintro e w1 ⟨B, gB, kB, rfl, hg⟩
    refine ⟨_, rfl, ?_⟩
    exact ⟨y28, y29, y30, y31, _, _, _, y35, y13, y14, B1_2, B, p1_8, p1_9, rfl, hG.trans hg, f0, f1, f2, f3, fun _ => rfl, fun _ => rfl, fun _ => ⟨gB, kB, rfl⟩, (fun h => absurd (show L 7 = true from h) (by rw [l7]; decide)), fun h => let ⟨z1, z2, z3⟩ := f8 h; ⟨z1, z2, z3.gr hg⟩, fun h => let ⟨z1, z2, z3⟩ := f9 h; ⟨z1, z2, by rw [l11] at z3; rw [show upd L 6 11 = false from l11]; exact z3.gr hg⟩, f10, (fun h => absurd (show L 11 = true from h) (by rw [l11]; decide)), g8_9⟩
   refine allOps_cons 7 ?_ ?_
   ·refine kF rfl ?_
    rintro L ac wx hL hd ⟨y28, y29, y30, y31, y32, y33, y34, y35, y13, y14, B1_2, B1_6, p1_8, p1_9, rfl, hG, f0, f1, f2, f3, f4, f5, f6, f7, f8, f9, f10, f11, g8_9⟩
    obtain ⟨e0, e1, -⟩ := hd
    obtain ⟨y6_0, y6_1, h6⟩ := f6 (e0 rfl); subst h6
    have l11 : L 11 = false := by
     cases h : L 11 with
     | false => rfl
     | true => have := (f11 h).1; rw [hL] at this; cases this
    refine wp_call1 rfl rfl (by go_simp) ?_
    refine (k_sync B1_6 _ y6_0).mono ?_
    rintro e w1 ⟨rfl, hg⟩
    refine ⟨_, rfl, ?_⟩
    exact ⟨y28, y29, y30, y31, y32, y33, _, _, y13, y14, B1_2, B1_6, p1_8, p1_9, rfl, hG.trans hg, f0, f1, f2, f3, f4, f5, fun _ => ⟨y6_0, y6_1, rfl⟩, fun _ => ⟨e0 rfl, rfl⟩, fun h => let ⟨z1, z2, z3⟩ := f8 h; ⟨z1, z2, z3.gr hg⟩, fun h => let ⟨z1, z2, z3⟩ := f9 h; ⟨z1, z2, by rw [l11] at z3; rw [show upd L 7 11 = false from l11]; exact z3.gr hg⟩, f10, (fun h => absurd (show L 11 = true from h) (by rw [l11]; decide)), g8_9⟩
   refine allOps_cons 8 ?_ ?_
   ·refine kF rfl ?_
    rintro L ac wx hL hd ⟨y28, y29, y30, y31, y32, y33, y34, y35, y13, y14, B1_2, B1_6, p1_8, p1_9, rfl, hG, f0, f1, f2, f3, f4, f5, f6, f7, f8, f9, f10, f11, g8_9⟩
    have l10 : L 10 = false := by
     cases h : L 10 with
     | false => rfl
     | true => have := (f10 h).2; rw [hL] at this; cases this
    refine wp_allocB rfl ?_
    intro w1 hn hg
    exact ⟨y28, y29, y30, y31, y32, y33, y34, y35, _, y14, B1_2, B1_6, wx.heap.size, p1_9, rfl, hG.trans hg, f0, f1, f2, f3, f4, f5, f6, f7, fun _ => ⟨rfl, hG.below.size, by rw [show upd L 8 10 = false from l10]; exact hn⟩, fun h => let ⟨z1, z2, z3⟩ := f9 h; ⟨z1, z2, z3.gr hg⟩, (fun h => absurd (show L 10 = true from h) (by rw [l10]; decide)), f11, fun _ h => by have z := (f9 h).2.2.lt; omega⟩
   refine allOps_cons 9 ?_ ?_
   ·refine kF rfl ?_
    rintro L ac wx hL hd ⟨y28, y29, y30, y31, y32, y33, y34, y35, y13, y14, B1_2, B1_6, p1_8, p1_9, rfl, hG, f0, f1, f2, f3, f4, f5, f6, f7, f8, f9, f10, f11, g8_9⟩
    have l11 : L 11 = false := by
     cases h : L 11 with
     | false => rfl
     | true => have := (f11 h).2; rw [hL] at this; cases this
    refine wp_allocB rfl ?_
    intro w1 hn hg
    exact ⟨y28, y29, y30, y31, y32, y33, y34, y35, y13, _, B1_2, B1_6, p1_8, wx.heap.size, rfl, hG.trans hg, f0, f1, f2, f3, f4, f5, f6, f7, fun h => let ⟨z1, z2, z3⟩ := f8 h; ⟨z1, z2, z3.gr hg⟩, fun _ => ⟨rfl, hG.below.size, by rw [show upd L 9 11 = false from l11]; exact hn⟩, f10, (fun h => absurd (show L 11 = true from h) (by rw [l11]; decide)), fun h _ => by have z := (f8 h).2.2.lt; omega⟩
   refine allOps_cons 10 ?_ ?_
   ·refine kF rfl ?_
    rintro L ac wx hL hd ⟨y28, y29, y30, y31, y32, y33, y34, y35, y13, y14, B1_2, B1_6, p1_8, p1_9, rfl, hG, f0, f1, f2, f3, f4, f5, f6, f7, f8, f9, f10, f11, g8_9⟩
    obtain ⟨e0, e1, e2, e3, e4, e5, e6, e7, e8, e9, e10, e11, e12, -⟩ := hd
    have lp : L 8 = true := e0 rfl
    have lx : L 3 = true := e1 rfl
    obtain ⟨h1, h2, h3⟩ := f8 lp
    obtain ⟨y0, h4⟩ := f3 lx
    rw [hL] at h3
    subst h1; subst h4
    refine wp_storeB rfl rfl rfl h3 ?_
    intro w1 hn hgx
    exact ⟨y28, y29, y30, _, y32, y33, y34, y35, _, y14, B1_2, B1_6, p1_8, p1_9, rfl, hgx.gr _ hG h2, f0, f1, f2, fun _ => ⟨y0, rfl⟩, f4, f5, f6, f7, fun _ => ⟨rfl, h2, hn⟩, fun h => let ⟨z1, z2, z3⟩ := f9 h; ⟨z1, z2, z3.grx hgx (Ne.symm (g8_9 lp h))⟩, fun _ => ⟨lx, lp⟩, f11, g8_9⟩
   refine allOps_cons 11 ?_ ?_
   ·refine kF rfl ?_
    rintro L ac wx hL hd ⟨y28, y29, y30, y31, y32, y33, y34, y35, y13, y14, B1_2, B1_6, p1_8, p1_9, rfl, hG, f0, f1, f2, f3, f4, f5, f6, f7, f8, f9, f10, f11, g8_9⟩
    obtain ⟨e0, e1, e2, e3, e4, e5, e6, e7, e8, e9, e10, e11, e12, e13, -⟩ := hd
    have lp : L 9 = true := e0 rfl
    have lx : L 7 = true := e1 rfl
    obtain ⟨h1, h2, h3⟩ := f9 lp
    obtain ⟨y0, h4⟩ := f7 lx
    rw [hL] at h3
    subst h1; subst h4
    refine wp_storeB rfl rfl rfl h3 ?_
    intro w1 hn hgx
    exact ⟨y28, y29, y30, y31, y32, y33, y34, _, y13, _, B1_2, B1_6, p1_8, p1_9, rfl, hgx.gr _ hG h2, f0, f1, f2, f3, f4, f5, f6, fun _ => ⟨y0, rfl⟩, fun h => let ⟨z1, z2, z3⟩ := f8 h; ⟨z1, z2, z3.grx hgx (g8_9 h lp)⟩, fun _ => ⟨rfl, h2, hn⟩, f10, fun _ => ⟨lx, lp⟩, g8_9⟩
   exact allOps_nil 12
  case fin =>
   rintro L ac wx hall ⟨y28, y29, y30, y31, y32, y33, y34, y35, y13, y14, B1_2, B1_6, p1_8, p1_9, rfl, hG, f0, f1, f2, f3, f4, f5, f6, f7, f8, f9, f10, f11, g8_9⟩
   have l0 : L 0 = true := hall 0 (by decide)
   have l1 : L 1 = true := hall 1 (by decide)
   have l2 : L 2 = true := hall 2 (by decide)
   have l3 : L 3 = true := hall 3 (by decide)
   have l4 : L 4 = true := hall 4 (by decide)
   have l5 : L 5 = true := hall 5 (by decide)
   have l6 : L 6 = true := hall 6 (by decide)
   have l7 : L 7 = true := hall 7 (by decide)
   have l8 : L 8 = true := hall 8 (by decide)
   have l9 : L 9 = true := hall 9 (by decide)
   have l10 : L 10 = true := hall 10 (by decide)
   have l11 : L 11 = true := hall 11 (by decide)
   obtain ⟨h8, k8, z8⟩ := f8 l8; rw [l10] at z8
   obtain ⟨h9, k9, z9⟩ := f9 l9; rw [l11] at z9
   obtain ⟨y2_0, y2_1, -⟩ := f2 l2
   obtain ⟨y6_0, y6_1, -⟩ := f6 l6
   refine hK2 _ _ (hJ _ _ ?_)
   (repeat apply Exists.intro)
   refine ⟨?rel1, rfl⟩
   exact ⟨p1_8, p1_9, B1_2, B1_6, h8, h9, y2_0, y2_1, y6_0, y6_1, z8, z9, g8_9 l8 l9, k8, k9, hG⟩
 case rest =>
  obtain ⟨p1_8, p1_9, B1_2, B1_6, rfl, rfl, B1_2_0, B1_2_1, B1_6_0, B1_6_1, zp1_8, zp1_9, np1_8_p1_9, zp1_8ge, zp1_9ge, hc1⟩ := hcut
  have hXA_1 := (HA).gr hc1
  have hXB_1 := (HB).gr hc1
  have hF_1 := (HF).trans hc1
  obtain ⟨kxA, -, kgA⟩ := sync_keep B1_2_0 B1_2_1
  obtain ⟨kyB, -, kgB⟩ := sync_keep B1_6_0 B1_6_1
  generalize syncM B1_2 = A at kxA kgA zp1_8
  generalize syncM B1_6 = B at kyB kgB zp1_9
  have hGL := GrL.of (S := []) (hF_1)
  have cA := fun w => (Wd.asks_any wd d (iv x) (iv y) (codeM_nn hd) (iv_in x) (iv_in y) w).mono fun e w' h => (⟨h.1, gw_of h.2⟩ : _ ∧ Gr w w')
  rw [errA_code hd] at cA
  cases es : Wd.asksV wd d (iv x) (iv y) with
  | false =>
   rw [es] at cA
   obtain ⟨P1, P2, eP, hP1, hP2, lP1, lP2, gP1, gP2⟩ := ref_keeps kgA kgB (tell_keeps hd kgA kgB kxA kyB es)
   have cP : ∀ w, Calls Tryz.prog 29 #[.int .u8 d, .bool wd, .bool false, .agg (bv A), .agg (bv B)] w fun e w' => e = .returned (.tuple #[.agg (bv P1), .agg (bv P2), .bool true, .int .i64 0]) ∧ Gr w w' := fun w => by
    have z := k_ref (wd := wd) (so := false) hd kgA kgB w
    rw [eP] at z
    exact z
   have cH1 := fun w => k_has P1 x w
   rw [(hasM_iff _ _).2 hP1] at cH1
   have cH2 := fun w => k_has P2 y w
   rw [(hasM_iff _ _).2 hP2] at cH2
   have cI1 := fun w => k_in P1 A w
   rw [inM_of gP1 lP1] at cI1
   have cI2 := fun w => k_in P2 B w
   rw [inM_of gP2 lP2] at cI2
   have cS0 := fun w => k_sure d hd wd A B kgA kgB w
   rw [eP] at cS0
   cases eR : refM (tellM d wd true A B) with
   | none =>
    have cR : ∀ w, Calls Tryz.prog 29 #[.int .u8 d, .bool wd, .bool true, .agg (bv A), .agg (bv B)] w fun e w' => e = .returned (.tuple #[.agg (bv nothingM), .agg (bv nothingM), .bool false, .int .i64 0]) ∧ Gr w w' := fun w => by
     have z := k_ref (wd := wd) (so := true) hd kgA kgB w
     rw [eR] at z
     exact z
    have cN := fun w => k_none nothingM w
    rw [nothing_nn] at cN
    have cS : ∀ w, Calls Tryz.prog 30 #[.int .u8 d, .bool wd, .agg (bv A), .agg (bv B)] w fun e w' => e = .returned (.tuple #[.bool false, .bool true, .int .i64 0]) ∧ Gr w w' := fun w => by
     have z := cS0 w
     rw [eR] at z
     exact z
    clear cS0
    go_upto_region 2 with fail
    refine rG ?_
    refine sF rfl ?_
    refine wM (v := .int .u8 c) rfl rfl ?_
    simp only [Act.put, zs, z0, z1]
    refine sF rfl ?_
    refine wp_call1 rfl rfl (by go_simp) ?_
    refine ((cd) _).mono ?_
    rintro e wk12 ⟨rfl, hk12⟩
    refine ⟨_, rfl, ?_⟩
    have hp1_8_12 := (zp1_8).gr hk12
    have hp1_9_12 := (zp1_9).gr hk12
    have hF_12 := (hGL).then hk12
    simp only [Act.put, zs, z0, z1]
    refine sF rfl ?_
    refine wA (v := .int .u8 d) rfl rfl ?_
    simp only [Act.put, zs, z0, z1]
    refine s_end ?_
    go_upto_region 3 with fail
    refine rG ?_
    refine sF rfl ?_
    refine wM (v := .int .u8 d) rfl rfl ?_
    simp only [Act.put, zs, z0, z1]
    refine sF rfl ?_
    refine wM (v := .bool wd) rfl rfl ?_
    simp only [Act.put, zs, z0, z1]
    refine sF rfl ?_
    refine wM (v := .int .u64 (iv x)) rfl rfl ?_
    simp only [Act.put, zs, z0, z1]
    refine sF rfl ?_
    refine wM (v := .int .u64 (iv y)) rfl rfl ?_
    simp only [Act.put, zs, z0, z1]
    refine sF rfl ?_
    refine wp_call4 rfl rfl rfl rfl rfl (by go_simp) ?_
    refine ((cA) _).mono ?_
    rintro e wk13 ⟨rfl, hk13⟩
    refine ⟨_, rfl, ?_⟩
    have hp1_8_13 := (hp1_8_12).gr hk13
    have hp1_9_13 := (hp1_9_12).gr hk13
    have hF_13 := (hF_12).then hk13
    simp only [Act.put, zs, z0, z1]
    refine sF rfl ?_
    refine wM (v := .tuple #[.bool false, .int .i64 0]) rfl rfl ?_
    simp only [Act.put, zs, z0, z1]
    refine sF rfl ?_
    refine wp_extract (v := .bool false) rfl rfl rfl ?_
    simp only [Act.put, zs, z0, z1]
    refine sF rfl ?_
    refine wp_extract (v := .int .i64 0) rfl rfl rfl ?_
    simp only [Act.put, zs, z0, z1]
    refine sF rfl ?_
    refine wA (v := .bool false) rfl rfl ?_
    simp only [Act.put, zs, z0, z1]
    refine sF rfl ?_
    refine wA (v := .int .i64 0) rfl rfl ?_
    simp only [Act.put, zs, z0, z1]
    refine s_end ?_
    go_upto_region 4 with fail
    refine rG ?_
    refine sF rfl ?_
    refine wM (v := .int .u8 d) rfl rfl ?_
    simp only [Act.put, zs, z0, z1]
    refine sF rfl ?_
    refine wM (v := .bool wd) rfl rfl ?_
    simp only [Act.put, zs, z0, z1]
    refine sF rfl ?_
    refine wM (v := .bool false) rfl rfl ?_
    simp only [Act.put, zs, z0, z1]
    refine sF rfl ?_
    refine wp_loadB rfl rfl (hp1_8_13) ?_
    simp only [Act.put, zs, z0, z1]
    refine sF rfl ?_
    refine wp_loadB rfl rfl (hp1_9_13) ?_
    simp only [Act.put, zs, z0, z1]
    refine sF rfl ?_
    refine wp_call5 rfl rfl rfl rfl rfl rfl (by go_simp) ?_
    refine ((cP) _).mono ?_
    rintro e wk14 ⟨rfl, hk14⟩
    refine ⟨_, rfl, ?_⟩
    have hp1_8_14 := (hp1_8_13).gr hk14
    have hp1_9_14 := (hp1_9_13).gr hk14
    have hF_14 := (hF_13).then hk14
    simp only [Act.put, zs, z0, z1]
    refine sF rfl ?_
    refine wM (v := .tuple #[.agg (bv P1), .agg (bv P2), .bool true, .int .i64 0]) rfl rfl ?_
    simp only [Act.put, zs, z0, z1]
    refine sF rfl ?_
    refine wp_extract (v := .agg (bv P1)) rfl rfl rfl ?_
    simp only [Act.put, zs, z0, z1]
    refine sF rfl ?_
    refine wp_extract (v := .agg (bv P2)) rfl rfl rfl ?_
    simp only [Act.put, zs, z0, z1]
    refine sF rfl ?_
    refine wp_extract (v := .bool true) rfl rfl rfl ?_
    simp only [Act.put, zs, z0, z1]
    refine sF rfl ?_
    refine wp_extract (v := .int .i64 0) rfl rfl rfl ?_
    simp only [Act.put, zs, z0, z1]
    refine sF rfl ?_
    refine wp_allocB rfl ?_
    intro ws15 hn15 hg15
    obtain ⟨PN15, hb15⟩ : ∃ b, wk14.heap.size = b := ⟨_, rfl⟩
    rw [hb15] at hn15 ⊢
    have hge15 := Nat.le_trans (hF_14).size (Nat.le_of_eq hb15)
    have hnep1_8_PN15 : p1_8 ≠ PN15 := nl (hp1_8_14).lt hb15
    have hnep1_9_PN15 : p1_9 ≠ PN15 := nl (hp1_9_14).lt hb15
    have hp1_8_15 := (hp1_8_14).gr hg15
    have hp1_9_15 := (hp1_9_14).gr hg15
    have hF_15 := (hF_14).then hg15
    simp only [Act.put, zs, z0, z1]
    refine sF rfl ?_
    refine wp_allocB rfl ?_
    intro ws16 hn16 hg16
    obtain ⟨PN16, hb16⟩ : ∃ b, ws15.heap.size = b := ⟨_, rfl⟩
    rw [hb16] at hn16 ⊢
    have hge16 := Nat.le_trans (hF_15).size (Nat.le_of_eq hb16)
    have hnep1_8_PN16 : p1_8 ≠ PN16 := nl (hp1_8_15).lt hb16
    have hnep1_9_PN16 : p1_9 ≠ PN16 := nl (hp1_9_15).lt hb16
    have hnePN15_PN16 : PN15 ≠ PN16 := nl (hn15).lt hb16
    have hp1_8_16 := (hp1_8_15).gr hg16
    have hp1_9_16 := (hp1_9_15).gr hg16
    have hPN15_16 := (hn15).gr hg16
    have hF_16 := (hF_15).then hg16
    simp only [Act.put, zs, z0, z1]
    refine sF rfl ?_
    refine wp_storeB rfl rfl rfl (hPN15_16) ?_
    intro ws17 hs17 gx17
    have hp1_8_17 := (hp1_8_16).grx gx17 hnep1_8_PN15
    have hp1_9_17 := (hp1_9_16).grx gx17 hnep1_9_PN15
    have hPN16_17 := (hn16).grx gx17 (Ne.symm hnePN15_PN16)
    have hF_17 := (hF_16).thenx gx17 (.inr hge15)
    change AtA ws17 PN15 (bv P1) 30 at hs17
    simp only [Act.put, zs, z0, z1]
    refine sF rfl ?_
    refine wp_storeB rfl rfl rfl (hPN16_17) ?_
    intro ws18 hs18 gx18
    have hp1_8_18 := (hp1_8_17).grx gx18 hnep1_8_PN16
    have hp1_9_18 := (hp1_9_17).grx gx18 hnep1_9_PN16
    have hPN15_18 := (hs17).grx gx18 hnePN15_PN16
    have hF_18 := (hF_17).thenx gx18 (.inr hge16)
    change AtA ws18 PN16 (bv P2) 30 at hs18
    simp only [Act.put, zs, z0, z1]
    refine sF rfl ?_
    refine wA (v := .bool true) rfl rfl ?_
    simp only [Act.put, zs, z0, z1]
    refine sF rfl ?_
    refine wA (v := .int .i64 0) rfl rfl ?_
    simp only [Act.put, zs, z0, z1]
    refine s_end ?_
    go_upto_region 5 with fail
    refine rG ?_
    refine sF rfl ?_
    refine wM (v := .int .i64 0) rfl rfl ?_
    simp only [Act.put, zs, z0, z1]
    refine sF rfl ?_
    refine wp_neK rfl rfl ?_
    simp only [Act.put, zs, z0, z1]
    refine sF rfl ?_
    refine wM (v := .bool false) rfl rfl ?_
    simp only [Act.put, zs, z0, z1]
    refine s_do (by rfl) ?_
    refine wM (v := .int .i64 0) rfl rfl ?_
    simp only [Act.put, zs, z0, z1]
    refine s_do (by rfl) ?_
    refine wp_neK rfl rfl ?_
    simp only [Act.put, zs, z0, z1]
    refine sF rfl ?_
    refine wp_pickF (v := .bool false) rfl rfl rfl ?_
    simp only [Act.put, zs, z0, z1]
    refine sF rfl ?_
    refine wM (v := .bool false) rfl rfl ?_
    simp only [Act.put, zs, z0, z1]
    refine s_do (by rfl) ?_
    refine wM (v := .bool true) rfl rfl ?_
    simp only [Act.put, zs, z0, z1]
    refine s_do (by rfl) ?_
    refine wp_notT rfl rfl ?_
    simp only [Act.put, zs, z0, z1]
    refine sF rfl ?_
    refine wp_pickF (v := .bool false) rfl rfl rfl ?_
    simp only [Act.put, zs, z0, z1]
    refine sF rfl ?_
    refine wM (v := .bool false) rfl rfl ?_
    simp only [Act.put, zs, z0, z1]
    refine s_do (by rfl) ?_
    refine wp_loadB rfl rfl (hPN15_18) ?_
    simp only [Act.put, zs, z0, z1]
    refine s_do (by rfl) ?_
    refine wM (v := .int .u64 (iv x)) rfl rfl ?_
    simp only [Act.put, zs, z0, z1]
    refine s_do (by rfl) ?_
    refine wp_call2 rfl rfl rfl (by go_simp) ?_
    refine ((cH1) _).mono ?_
    rintro e wk19 ⟨rfl, hk19⟩
    refine ⟨_, rfl, ?_⟩
    have hp1_8_19 := (hp1_8_18).gr hk19
    have hp1_9_19 := (hp1_9_18).gr hk19
    have hPN15_19 := (hPN15_18).gr hk19
    have hPN16_19 := (hs18).gr hk19
    have hF_19 := (hF_18).then hk19
    simp only [Act.put, zs, z0, z1]
    refine s_do (by rfl) ?_
    refine wp_notT rfl rfl ?_
    simp only [Act.put, zs, z0, z1]
    refine sF rfl ?_
    refine wp_pickF (v := .bool false) rfl rfl rfl ?_
    simp only [Act.put, zs, z0, z1]
    refine sF rfl ?_
    refine wM (v := .bool false) rfl rfl ?_
    simp only [Act.put, zs, z0, z1]
    refine s_do (by rfl) ?_
    refine wp_loadB rfl rfl (hPN16_19) ?_
    simp only [Act.put, zs, z0, z1]
    refine s_do (by rfl) ?_
    refine wM (v := .int .u64 (iv y)) rfl rfl ?_
    simp only [Act.put, zs, z0, z1]
    refine s_do (by rfl) ?_
    refine wp_call2 rfl rfl rfl (by go_simp) ?_
    refine ((cH2) _).mono ?_
    rintro e wk20 ⟨rfl, hk20⟩
    refine ⟨_, rfl, ?_⟩
    have hp1_8_20 := (hp1_8_19).gr hk20
    have hp1_9_20 := (hp1_9_19).gr hk20
    have hPN15_20 := (hPN15_19).gr hk20
    have hPN16_20 := (hPN16_19).gr hk20
    have hF_20 := (hF_19).then hk20
    simp only [Act.put, zs, z0, z1]
    refine s_do (by rfl) ?_
    refine wp_notT rfl rfl ?_
    simp only [Act.put, zs, z0, z1]
    refine sF rfl ?_
    refine wp_pickF (v := .bool false) rfl rfl rfl ?_
    simp only [Act.put, zs, z0, z1]
    refine sF rfl ?_
    refine wM (v := .bool false) rfl rfl ?_
    simp only [Act.put, zs, z0, z1]
    refine s_do (by rfl) ?_
    refine wp_loadB rfl rfl (hPN15_20) ?_
    simp only [Act.put, zs, z0, z1]
    refine s_do (by rfl) ?_
    refine wp_loadB rfl rfl (hp1_8_20) ?_
    simp only [Act.put, zs, z0, z1]
    refine s_do (by rfl) ?_
    refine wp_call2 rfl rfl rfl (by go_simp) ?_
    refine ((cI1) _).mono ?_
    rintro e wk21 ⟨rfl, hk21⟩
    refine ⟨_, rfl, ?_⟩
    have hp1_8_21 := (hp1_8_20).gr hk21
    have hp1_9_21 := (hp1_9_20).gr hk21
    have hPN15_21 := (hPN15_20).gr hk21
    have hPN16_21 := (hPN16_20).gr hk21
    have hF_21 := (hF_20).then hk21
    simp only [Act.put, zs, z0, z1]
    refine s_do (by rfl) ?_
    refine wp_notT rfl rfl ?_
    simp only [Act.put, zs, z0, z1]
    refine sF rfl ?_
    refine wp_pickF (v := .bool false) rfl rfl rfl ?_
    simp only [Act.put, zs, z0, z1]
    refine sF rfl ?_
    refine wM (v := .bool false) rfl rfl ?_
    simp only [Act.put, zs, z0, z1]
    refine s_do (by rfl) ?_
    refine wp_loadB rfl rfl (hPN16_21) ?_
    simp only [Act.put, zs, z0, z1]
    refine s_do (by rfl) ?_
    refine wp_loadB rfl rfl (hp1_9_21) ?_
    simp only [Act.put, zs, z0, z1]
    refine s_do (by rfl) ?_
    refine wp_call2 rfl rfl rfl (by go_simp) ?_
    refine ((cI2) _).mono ?_
    rintro e wk22 ⟨rfl, hk22⟩
    refine ⟨_, rfl, ?_⟩
    have hp1_8_22 := (hp1_8_21).gr hk22
    have hp1_9_22 := (hp1_9_21).gr hk22
    have hPN15_22 := (hPN15_21).gr hk22
    have hPN16_22 := (hPN16_21).gr hk22
    have hF_22 := (hF_21).then hk22
    simp only [Act.put, zs, z0, z1]
    refine s_do (by rfl) ?_
    refine wp_notT rfl rfl ?_
    simp only [Act.put, zs, z0, z1]
    refine sF rfl ?_
    refine wp_pickF (v := .bool false) rfl rfl rfl ?_
    simp only [Act.put, zs, z0, z1]
    refine s_end ?_
    go_upto_region 7 with fail
    refine rG ?_
    refine sF rfl ?_
    refine wM (v := .int .u8 d) rfl rfl ?_
    simp only [Act.put, zs, z0, z1]
    refine sF rfl ?_
    refine wM (v := .bool wd) rfl rfl ?_
    simp only [Act.put, zs, z0, z1]
    refine sF rfl ?_
    refine wM (v := .bool false) rfl rfl ?_
    simp only [Act.put, zs, z0, z1]
    refine sF rfl ?_
    refine wp_notF rfl rfl ?_
    simp only [Act.put, zs, z0, z1]
    refine sF rfl ?_
    refine wp_loadB rfl rfl (hp1_8_22) ?_
    simp only [Act.put, zs, z0, z1]
    refine sF rfl ?_
    refine wp_loadB rfl rfl (hp1_9_22) ?_
    simp only [Act.put, zs, z0, z1]
    refine sF rfl ?_
    refine wp_call5 rfl rfl rfl rfl rfl rfl (by go_simp) ?_
    refine ((cR) _).mono ?_
    rintro e wk23 ⟨rfl, hk23⟩
    refine ⟨_, rfl, ?_⟩
    have hp1_8_23 := (hp1_8_22).gr hk23
    have hp1_9_23 := (hp1_9_22).gr hk23
    have hPN15_23 := (hPN15_22).gr hk23
    have hPN16_23 := (hPN16_22).gr hk23
    have hF_23 := (hF_22).then hk23
    simp only [Act.put, zs, z0, z1]
    refine sF rfl ?_
    refine wM (v := .tuple #[.agg (bv nothingM), .agg (bv nothingM), .bool false, .int .i64 0]) rfl rfl ?_
    simp only [Act.put, zs, z0, z1]
    refine sF rfl ?_
    refine wp_extract (v := .agg (bv nothingM)) rfl rfl rfl ?_
    simp only [Act.put, zs, z0, z1]
    refine sF rfl ?_
    refine wp_extract (v := .agg (bv nothingM)) rfl rfl rfl ?_
    simp only [Act.put, zs, z0, z1]
    refine sF rfl ?_
    refine wp_extract (v := .bool false) rfl rfl rfl ?_
    simp only [Act.put, zs, z0, z1]
    refine sF rfl ?_
    refine wp_extract (v := .int .i64 0) rfl rfl rfl ?_
    simp only [Act.put, zs, z0, z1]
    refine sF rfl ?_
    refine wp_allocB rfl ?_
    intro ws24 hn24 hg24
    obtain ⟨PN24, hb24⟩ : ∃ b, wk23.heap.size = b := ⟨_, rfl⟩
    rw [hb24] at hn24 ⊢
    have hge24 := Nat.le_trans (hF_23).size (Nat.le_of_eq hb24)
    have hnep1_8_PN24 : p1_8 ≠ PN24 := nl (hp1_8_23).lt hb24
    have hnep1_9_PN24 : p1_9 ≠ PN24 := nl (hp1_9_23).lt hb24
    have hnePN15_PN24 : PN15 ≠ PN24 := nl (hPN15_23).lt hb24
    have hnePN16_PN24 : PN16 ≠ PN24 := nl (hPN16_23).lt hb24
    have hp1_8_24 := (hp1_8_23).gr hg24
    have hp1_9_24 := (hp1_9_23).gr hg24
    have hPN15_24 := (hPN15_23).gr hg24
    have hPN16_24 := (hPN16_23).gr hg24
    have hF_24 := (hF_23).then hg24
    simp only [Act.put, zs, z0, z1]
    refine sF rfl ?_
    refine wp_allocB rfl ?_
    intro ws25 hn25 hg25
    obtain ⟨PN25, hb25⟩ : ∃ b, ws24.heap.size = b := ⟨_, rfl⟩
    rw [hb25] at hn25 ⊢
    have hge25 := Nat.le_trans (hF_24).size (Nat.le_of_eq hb25)
    have hnep1_8_PN25 : p1_8 ≠ PN25 := nl (hp1_8_24).lt hb25
    have hnep1_9_PN25 : p1_9 ≠ PN25 := nl (hp1_9_24).lt hb25
    have hnePN15_PN25 : PN15 ≠ PN25 := nl (hPN15_24).lt hb25
    have hnePN16_PN25 : PN16 ≠ PN25 := nl (hPN16_24).lt hb25
    have hnePN24_PN25 : PN24 ≠ PN25 := nl (hn24).lt hb25
    have hp1_8_25 := (hp1_8_24).gr hg25
    have hp1_9_25 := (hp1_9_24).gr hg25
    have hPN15_25 := (hPN15_24).gr hg25
    have hPN16_25 := (hPN16_24).gr hg25
    have hPN24_25 := (hn24).gr hg25
    have hF_25 := (hF_24).then hg25
    simp only [Act.put, zs, z0, z1]
    refine sF rfl ?_
    refine wp_storeB rfl rfl rfl (hPN24_25) ?_
    intro ws26 hs26 gx26
    have hp1_8_26 := (hp1_8_25).grx gx26 hnep1_8_PN24
    have hp1_9_26 := (hp1_9_25).grx gx26 hnep1_9_PN24
    have hPN15_26 := (hPN15_25).grx gx26 hnePN15_PN24
    have hPN16_26 := (hPN16_25).grx gx26 hnePN16_PN24
    have hPN25_26 := (hn25).grx gx26 (Ne.symm hnePN24_PN25)
    have hF_26 := (hF_25).thenx gx26 (.inr hge24)
    change AtA ws26 PN24 (bv nothingM) 30 at hs26
    simp only [Act.put, zs, z0, z1]
    refine sF rfl ?_
    refine wp_storeB rfl rfl rfl (hPN25_26) ?_
    intro ws27 hs27 gx27
    have hp1_8_27 := (hp1_8_26).grx gx27 hnep1_8_PN25
    have hp1_9_27 := (hp1_9_26).grx gx27 hnep1_9_PN25
    have hPN15_27 := (hPN15_26).grx gx27 hnePN15_PN25
    have hPN16_27 := (hPN16_26).grx gx27 hnePN16_PN25
    have hPN24_27 := (hs26).grx gx27 hnePN24_PN25
    have hF_27 := (hF_26).thenx gx27 (.inr hge25)
    change AtA ws27 PN25 (bv nothingM) 30 at hs27
    simp only [Act.put, zs, z0, z1]
    refine sF rfl ?_
    refine wA (v := .bool false) rfl rfl ?_
    simp only [Act.put, zs, z0, z1]
    refine sF rfl ?_
    refine wA (v := .int .i64 0) rfl rfl ?_
    simp only [Act.put, zs, z0, z1]
    refine s_end ?_
    go_upto_region 8 with fail
    refine rG ?_
    refine sF rfl ?_
    refine wM (v := .int .i64 0) rfl rfl ?_
    simp only [Act.put, zs, z0, z1]
    refine sF rfl ?_
    refine wp_neK rfl rfl ?_
    simp only [Act.put, zs, z0, z1]
    refine sF rfl ?_
    refine wM (v := .bool false) rfl rfl ?_
    simp only [Act.put, zs, z0, z1]
    refine s_do (by rfl) ?_
    refine wM (v := .bool false) rfl rfl ?_
    simp only [Act.put, zs, z0, z1]
    refine s_do (by rfl) ?_
    refine wM (v := .bool false) rfl rfl ?_
    simp only [Act.put, zs, z0, z1]
    refine s_skip (by rfl) ?_
    simp only [Act.put, zs, z0, z1]
    refine s_skip (by rfl) ?_
    simp only [Act.put, zs, z0, z1]
    refine s_skip (by rfl) ?_
    simp only [Act.put, zs, z0, z1]
    refine s_skip (by rfl) ?_
    simp only [Act.put, zs, z0, z1]
    refine s_skip (by rfl) ?_
    simp only [Act.put, zs, z0, z1]
    refine s_skip (by rfl) ?_
    simp only [Act.put, zs, z0, z1]
    refine s_skip (by rfl) ?_
    simp only [Act.put, zs, z0, z1]
    refine s_skip (by rfl) ?_
    simp only [Act.put, zs, z0, z1]
    refine s_skip (by rfl) ?_
    simp only [Act.put, zs, z0, z1]
    refine s_skip (by rfl) ?_
    simp only [Act.put, zs, z0, z1]
    refine s_do (by rfl) ?_
    refine wp_pickF (v := .bool false) rfl rfl rfl ?_
    simp only [Act.put, zs, z0, z1]
    refine sF rfl ?_
    refine wp_pickF (v := .bool false) rfl rfl rfl ?_
    simp only [Act.put, zs, z0, z1]
    refine sF rfl ?_
    refine wM (v := .bool false) rfl rfl ?_
    simp only [Act.put, zs, z0, z1]
    refine s_do (by rfl) ?_
    refine wM (v := .bool false) rfl rfl ?_
    simp only [Act.put, zs, z0, z1]
    refine s_do (by rfl) ?_
    refine wp_notF rfl rfl ?_
    simp only [Act.put, zs, z0, z1]
    refine s_do (by rfl) ?_
    refine wM (v := .bool true) rfl rfl ?_
    simp only [Act.put, zs, z0, z1]
    refine s_do (by rfl) ?_
    refine wp_loadB rfl rfl (hPN24_27) ?_
    simp only [Act.put, zs, z0, z1]
    refine s_do (by rfl) ?_
    refine wp_call1 rfl rfl (by go_simp) ?_
    refine ((cN) _).mono ?_
    rintro e wk28 ⟨rfl, hk28⟩
    refine ⟨_, rfl, ?_⟩
    have hp1_8_28 := (hp1_8_27).gr hk28
    have hp1_9_28 := (hp1_9_27).gr hk28
    have hPN15_28 := (hPN15_27).gr hk28
    have hPN16_28 := (hPN16_27).gr hk28
    have hPN24_28 := (hPN24_27).gr hk28
    have hPN25_28 := (hs27).gr hk28
    have hF_28 := (hF_27).then hk28
    simp only [Act.put, zs, z0, z1]
    refine s_do (by rfl) ?_
    refine wp_notT rfl rfl ?_
    simp only [Act.put, zs, z0, z1]
    refine s_do (by rfl) ?_
    refine wM (v := .bool false) rfl rfl ?_
    simp only [Act.put, zs, z0, z1]
    refine s_do (by rfl) ?_
    refine wp_loadB rfl rfl (hPN25_28) ?_
    simp only [Act.put, zs, z0, z1]
    refine s_do (by rfl) ?_
    refine wp_call1 rfl rfl (by go_simp) ?_
    refine ((cN) _).mono ?_
    rintro e wk29 ⟨rfl, hk29⟩
    refine ⟨_, rfl, ?_⟩
    have hp1_8_29 := (hp1_8_28).gr hk29
    have hp1_9_29 := (hp1_9_28).gr hk29
    have hPN15_29 := (hPN15_28).gr hk29
    have hPN16_29 := (hPN16_28).gr hk29
    have hPN24_29 := (hPN24_28).gr hk29
    have hPN25_29 := (hPN25_28).gr hk29
    have hF_29 := (hF_28).then hk29
    simp only [Act.put, zs, z0, z1]
    refine s_do (by rfl) ?_
    refine wp_notT rfl rfl ?_
    simp only [Act.put, zs, z0, z1]
    refine s_do (by rfl) ?_
    refine wp_pickF (v := .bool false) rfl rfl rfl ?_
    simp only [Act.put, zs, z0, z1]
    refine s_do (by rfl) ?_
    refine wp_pickT (v := .bool false) rfl rfl rfl ?_
    simp only [Act.put, zs, z0, z1]
    refine sF rfl ?_
    refine wp_pickF (v := .bool false) rfl rfl rfl ?_
    simp only [Act.put, zs, z0, z1]
    refine s_end ?_
    go_upto_region 10 with fail
    refine rG ?_
    refine sF rfl ?_
    refine wM (v := .int .u8 d) rfl rfl ?_
    simp only [Act.put, zs, z0, z1]
    refine sF rfl ?_
    refine wM (v := .bool wd) rfl rfl ?_
    simp only [Act.put, zs, z0, z1]
    refine sF rfl ?_
    refine wp_loadB rfl rfl (hp1_8_29) ?_
    simp only [Act.put, zs, z0, z1]
    refine sF rfl ?_
    refine wp_loadB rfl rfl (hp1_9_29) ?_
    simp only [Act.put, zs, z0, z1]
    refine sF rfl ?_
    refine wp_call4 rfl rfl rfl rfl rfl (by go_simp) ?_
    refine ((cS) _).mono ?_
    rintro e wk30 ⟨rfl, hk30⟩
    refine ⟨_, rfl, ?_⟩
    have hp1_8_30 := (hp1_8_29).gr hk30
    have hp1_9_30 := (hp1_9_29).gr hk30
    have hPN15_30 := (hPN15_29).gr hk30
    have hPN16_30 := (hPN16_29).gr hk30
    have hPN24_30 := (hPN24_29).gr hk30
    have hPN25_30 := (hPN25_29).gr hk30
    have hF_30 := (hF_29).then hk30
    simp only [Act.put, zs, z0, z1]
    refine sF rfl ?_
    refine wM (v := .tuple #[.bool false, .bool true, .int .i64 0]) rfl rfl ?_
    simp only [Act.put, zs, z0, z1]
    refine sF rfl ?_
    refine wp_extract (v := .bool false) rfl rfl rfl ?_
    simp only [Act.put, zs, z0, z1]
    refine sF rfl ?_
    refine wp_extract (v := .bool true) rfl rfl rfl ?_
    simp only [Act.put, zs, z0, z1]
    refine sF rfl ?_
    refine wp_extract (v := .int .i64 0) rfl rfl rfl ?_
    simp only [Act.put, zs, z0, z1]
    refine sF rfl ?_
    refine wA (v := .bool false) rfl rfl ?_
    simp only [Act.put, zs, z0, z1]
    refine sF rfl ?_
    refine wA (v := .bool true) rfl rfl ?_
    simp only [Act.put, zs, z0, z1]
    refine sF rfl ?_
    refine wA (v := .int .i64 0) rfl rfl ?_
    simp only [Act.put, zs, z0, z1]
    refine s_end ?_
    go_upto_region 11 with fail
    refine rG ?_
    refine sF rfl ?_
    refine wM (v := .int .i64 0) rfl rfl ?_
    simp only [Act.put, zs, z0, z1]
    refine sF rfl ?_
    refine wp_eqK rfl rfl ?_
    simp only [Act.put, zs, z0, z1]
    refine sF rfl ?_
    refine wM (v := .bool true) rfl rfl ?_
    simp only [Act.put, zs, z0, z1]
    refine s_do (by rfl) ?_
    refine wM (v := .bool true) rfl rfl ?_
    simp only [Act.put, zs, z0, z1]
    refine s_do (by rfl) ?_
    refine wp_notT rfl rfl ?_
    simp only [Act.put, zs, z0, z1]
    refine s_do (by rfl) ?_
    refine wM (v := .bool false) rfl rfl ?_
    simp only [Act.put, zs, z0, z1]
    refine s_do (by rfl) ?_
    refine wM (v := .bool false) rfl rfl ?_
    simp only [Act.put, zs, z0, z1]
    refine s_do (by rfl) ?_
    refine wM (v := .bool false) rfl rfl ?_
    simp only [Act.put, zs, z0, z1]
    refine s_do (by rfl) ?_
    refine wp_eqB_f rfl rfl rfl ?_
    simp only [Act.put, zs, z0, z1]
    refine s_do (by rfl) ?_
    refine wp_pickF (v := .bool true) rfl rfl rfl ?_
    simp only [Act.put, zs, z0, z1]
    refine sF rfl ?_
    refine wp_pickT (v := .bool true) rfl rfl rfl ?_
    simp only [Act.put, zs, z0, z1]
    refine sF rfl ?_
    refine wM (v := .bool true) rfl rfl ?_
    simp only [Act.put, zs, z0, z1]
    refine s_do (by rfl) ?_
    refine wp_call0 rfl (by go_simp) ?_
    refine ((k_works) _).mono ?_
    rintro e wk31 ⟨rfl, hk31⟩
    refine ⟨_, rfl, ?_⟩
    have hp1_8_31 := (hp1_8_30).gr hk31
    have hp1_9_31 := (hp1_9_30).gr hk31
    have hPN15_31 := (hPN15_30).gr hk31
    have hPN16_31 := (hPN16_30).gr hk31
    have hPN24_31 := (hPN24_30).gr hk31
    have hPN25_31 := (hPN25_30).gr hk31
    have hF_31 := (hF_30).then hk31
    simp only [Act.put, zs, z0, z1]
    refine sF rfl ?_
    refine wp_pickT (v := .bool true) rfl rfl rfl ?_
    simp only [Act.put, zs, z0, z1]
    refine sF rfl ?_
    refine wA (v := .bool true) rfl rfl ?_
    simp only [Act.put, zs, z0, z1]
    refine s_end ?_
    go_wp2
    go_ret
    exact ⟨rfl, (hF_31).gr0⟩
   | some pr =>
    obtain ⟨R1, R2⟩ := pr
    obtain ⟨lR1, lR2, gR1, gR2⟩ := ref_fair (tell_fair hd kgA kgB) eR
    have cR : ∀ w, Calls Tryz.prog 29 #[.int .u8 d, .bool wd, .bool true, .agg (bv A), .agg (bv B)] w fun e w' => e = .returned (.tuple #[.agg (bv R1), .agg (bv R2), .bool true, .int .i64 0]) ∧ Gr w w' := fun w => by
     have z := k_ref (wd := wd) (so := true) hd kgA kgB w
     rw [eR] at z
     exact z
    have cJ1 := fun w => k_in R1 A w
    rw [inM_of gR1 lR1] at cJ1
    have cJ2 := fun w => k_in R2 B w
    rw [inM_of gR2 lR2] at cJ2
    have cS : ∀ w, Calls Tryz.prog 30 #[.int .u8 d, .bool wd, .agg (bv A), .agg (bv B)] w fun e w' => e = .returned (.tuple #[.bool false, .bool false, .int .i64 0]) ∧ Gr w w' := fun w => by
     have z := cS0 w
     rw [eR] at z
     exact z
    clear cS0
    go_upto_region 2 with fail
    refine rG ?_
    refine sF rfl ?_
    refine wM (v := .int .u8 c) rfl rfl ?_
    simp only [Act.put, zs, z0, z1]
    refine sF rfl ?_
    refine wp_call1 rfl rfl (by go_simp) ?_
    refine ((cd) _).mono ?_
    rintro e wk12 ⟨rfl, hk12⟩
    refine ⟨_, rfl, ?_⟩
    have hp1_8_12 := (zp1_8).gr hk12
    have hp1_9_12 := (zp1_9).gr hk12
    have hF_12 := (hGL).then hk12
    simp only [Act.put, zs, z0, z1]
    refine sF rfl ?_
    refine wA (v := .int .u8 d) rfl rfl ?_
    simp only [Act.put, zs, z0, z1]
    refine s_end ?_
    go_upto_region 3 with fail
    refine rG ?_
    refine sF rfl ?_
    refine wM (v := .int .u8 d) rfl rfl ?_
    simp only [Act.put, zs, z0, z1]
    refine sF rfl ?_
    refine wM (v := .bool wd) rfl rfl ?_
    simp only [Act.put, zs, z0, z1]
    refine sF rfl ?_
    refine wM (v := .int .u64 (iv x)) rfl rfl ?_
    simp only [Act.put, zs, z0, z1]
    refine sF rfl ?_
    refine wM (v := .int .u64 (iv y)) rfl rfl ?_
    simp only [Act.put, zs, z0, z1]
    refine sF rfl ?_
    refine wp_call4 rfl rfl rfl rfl rfl (by go_simp) ?_
    refine ((cA) _).mono ?_
    rintro e wk13 ⟨rfl, hk13⟩
    refine ⟨_, rfl, ?_⟩
    have hp1_8_13 := (hp1_8_12).gr hk13
    have hp1_9_13 := (hp1_9_12).gr hk13
    have hF_13 := (hF_12).then hk13
    simp only [Act.put, zs, z0, z1]
    refine sF rfl ?_
    refine wM (v := .tuple #[.bool false, .int .i64 0]) rfl rfl ?_
    simp only [Act.put, zs, z0, z1]
    refine sF rfl ?_
    refine wp_extract (v := .bool false) rfl rfl rfl ?_
    simp only [Act.put, zs, z0, z1]
    refine sF rfl ?_
    refine wp_extract (v := .int .i64 0) rfl rfl rfl ?_
    simp only [Act.put, zs, z0, z1]
    refine sF rfl ?_
    refine wA (v := .bool false) rfl rfl ?_
    simp only [Act.put, zs, z0, z1]
    refine sF rfl ?_
    refine wA (v := .int .i64 0) rfl rfl ?_
    simp only [Act.put, zs, z0, z1]
    refine s_end ?_
    go_upto_region 4 with fail
    refine rG ?_
    refine sF rfl ?_
    refine wM (v := .int .u8 d) rfl rfl ?_
    simp only [Act.put, zs, z0, z1]
    refine sF rfl ?_
    refine wM (v := .bool wd) rfl rfl ?_
    simp only [Act.put, zs, z0, z1]
    refine sF rfl ?_
    refine wM (v := .bool false) rfl rfl ?_
    simp only [Act.put, zs, z0, z1]
    refine sF rfl ?_
    refine wp_loadB rfl rfl (hp1_8_13) ?_
    simp only [Act.put, zs, z0, z1]
    refine sF rfl ?_
    refine wp_loadB rfl rfl (hp1_9_13) ?_
    simp only [Act.put, zs, z0, z1]
    refine sF rfl ?_
    refine wp_call5 rfl rfl rfl rfl rfl rfl (by go_simp) ?_
    refine ((cP) _).mono ?_
    rintro e wk14 ⟨rfl, hk14⟩
    refine ⟨_, rfl, ?_⟩
    have hp1_8_14 := (hp1_8_13).gr hk14
    have hp1_9_14 := (hp1_9_13).gr hk14
    have hF_14 := (hF_13).then hk14
    simp only [Act.put, zs, z0, z1]
    refine sF rfl ?_
    refine wM (v := .tuple #[.agg (bv P1), .agg (bv P2), .bool true, .int .i64 0]) rfl rfl ?_
    simp only [Act.put, zs, z0, z1]
    refine sF rfl ?_
    refine wp_extract (v := .agg (bv P1)) rfl rfl rfl ?_
    simp only [Act.put, zs, z0, z1]
    refine sF rfl ?_
    refine wp_extract (v := .agg (bv P2)) rfl rfl rfl ?_
    simp only [Act.put, zs, z0, z1]
    refine sF rfl ?_
    refine wp_extract (v := .bool true) rfl rfl rfl ?_
    simp only [Act.put, zs, z0, z1]
    refine sF rfl ?_
    refine wp_extract (v := .int .i64 0) rfl rfl rfl ?_
    simp only [Act.put, zs, z0, z1]
    refine sF rfl ?_
    refine wp_allocB rfl ?_
    intro ws15 hn15 hg15
    obtain ⟨PN15, hb15⟩ : ∃ b, wk14.heap.size = b := ⟨_, rfl⟩
    rw [hb15] at hn15 ⊢
    have hge15 := Nat.le_trans (hF_14).size (Nat.le_of_eq hb15)
    have hnep1_8_PN15 : p1_8 ≠ PN15 := nl (hp1_8_14).lt hb15
    have hnep1_9_PN15 : p1_9 ≠ PN15 := nl (hp1_9_14).lt hb15
    have hp1_8_15 := (hp1_8_14).gr hg15
    have hp1_9_15 := (hp1_9_14).gr hg15
    have hF_15 := (hF_14).then hg15
    simp only [Act.put, zs, z0, z1]
    refine sF rfl ?_
    refine wp_allocB rfl ?_
    intro ws16 hn16 hg16
    obtain ⟨PN16, hb16⟩ : ∃ b, ws15.heap.size = b := ⟨_, rfl⟩
    rw [hb16] at hn16 ⊢
    have hge16 := Nat.le_trans (hF_15).size (Nat.le_of_eq hb16)
    have hnep1_8_PN16 : p1_8 ≠ PN16 := nl (hp1_8_15).lt hb16
    have hnep1_9_PN16 : p1_9 ≠ PN16 := nl (hp1_9_15).lt hb16
    have hnePN15_PN16 : PN15 ≠ PN16 := nl (hn15).lt hb16
    have hp1_8_16 := (hp1_8_15).gr hg16
    have hp1_9_16 := (hp1_9_15).gr hg16
    have hPN15_16 := (hn15).gr hg16
    have hF_16 := (hF_15).then hg16
    simp only [Act.put, zs, z0, z1]
    refine sF rfl ?_
    refine wp_storeB rfl rfl rfl (hPN15_16) ?_
    intro ws17 hs17 gx17
    have hp1_8_17 := (hp1_8_16).grx gx17 hnep1_8_PN15
    have hp1_9_17 := (hp1_9_16).grx gx17 hnep1_9_PN15
    have hPN16_17 := (hn16).grx gx17 (Ne.symm hnePN15_PN16)
    have hF_17 := (hF_16).thenx gx17 (.inr hge15)
    change AtA ws17 PN15 (bv P1) 30 at hs17
    simp only [Act.put, zs, z0, z1]
    refine sF rfl ?_
    refine wp_storeB rfl rfl rfl (hPN16_17) ?_
    intro ws18 hs18 gx18
    have hp1_8_18 := (hp1_8_17).grx gx18 hnep1_8_PN16
    have hp1_9_18 := (hp1_9_17).grx gx18 hnep1_9_PN16
    have hPN15_18 := (hs17).grx gx18 hnePN15_PN16
    have hF_18 := (hF_17).thenx gx18 (.inr hge16)
    change AtA ws18 PN16 (bv P2) 30 at hs18
    simp only [Act.put, zs, z0, z1]
    refine sF rfl ?_
    refine wA (v := .bool true) rfl rfl ?_
    simp only [Act.put, zs, z0, z1]
    refine sF rfl ?_
    refine wA (v := .int .i64 0) rfl rfl ?_
    simp only [Act.put, zs, z0, z1]
    refine s_end ?_
    go_upto_region 5 with fail
    refine rG ?_
    refine sF rfl ?_
    refine wM (v := .int .i64 0) rfl rfl ?_
    simp only [Act.put, zs, z0, z1]
    refine sF rfl ?_
    refine wp_neK rfl rfl ?_
    simp only [Act.put, zs, z0, z1]
    refine sF rfl ?_
    refine wM (v := .bool false) rfl rfl ?_
    simp only [Act.put, zs, z0, z1]
    refine s_do (by rfl) ?_
    refine wM (v := .int .i64 0) rfl rfl ?_
    simp only [Act.put, zs, z0, z1]
    refine s_do (by rfl) ?_
    refine wp_neK rfl rfl ?_
    simp only [Act.put, zs, z0, z1]
    refine sF rfl ?_
    refine wp_pickF (v := .bool false) rfl rfl rfl ?_
    simp only [Act.put, zs, z0, z1]
    refine sF rfl ?_
    refine wM (v := .bool false) rfl rfl ?_
    simp only [Act.put, zs, z0, z1]
    refine s_do (by rfl) ?_
    refine wM (v := .bool true) rfl rfl ?_
    simp only [Act.put, zs, z0, z1]
    refine s_do (by rfl) ?_
    refine wp_notT rfl rfl ?_
    simp only [Act.put, zs, z0, z1]
    refine sF rfl ?_
    refine wp_pickF (v := .bool false) rfl rfl rfl ?_
    simp only [Act.put, zs, z0, z1]
    refine sF rfl ?_
    refine wM (v := .bool false) rfl rfl ?_
    simp only [Act.put, zs, z0, z1]
    refine s_do (by rfl) ?_
    refine wp_loadB rfl rfl (hPN15_18) ?_
    simp only [Act.put, zs, z0, z1]
    refine s_do (by rfl) ?_
    refine wM (v := .int .u64 (iv x)) rfl rfl ?_
    simp only [Act.put, zs, z0, z1]
    refine s_do (by rfl) ?_
    refine wp_call2 rfl rfl rfl (by go_simp) ?_
    refine ((cH1) _).mono ?_
    rintro e wk19 ⟨rfl, hk19⟩
    refine ⟨_, rfl, ?_⟩
    have hp1_8_19 := (hp1_8_18).gr hk19
    have hp1_9_19 := (hp1_9_18).gr hk19
    have hPN15_19 := (hPN15_18).gr hk19
    have hPN16_19 := (hs18).gr hk19
    have hF_19 := (hF_18).then hk19
    simp only [Act.put, zs, z0, z1]
    refine s_do (by rfl) ?_
    refine wp_notT rfl rfl ?_
    simp only [Act.put, zs, z0, z1]
    refine sF rfl ?_
    refine wp_pickF (v := .bool false) rfl rfl rfl ?_
    simp only [Act.put, zs, z0, z1]
    refine sF rfl ?_
    refine wM (v := .bool false) rfl rfl ?_
    simp only [Act.put, zs, z0, z1]
    refine s_do (by rfl) ?_
    refine wp_loadB rfl rfl (hPN16_19) ?_
    simp only [Act.put, zs, z0, z1]
    refine s_do (by rfl) ?_
    refine wM (v := .int .u64 (iv y)) rfl rfl ?_
    simp only [Act.put, zs, z0, z1]
    refine s_do (by rfl) ?_
    refine wp_call2 rfl rfl rfl (by go_simp) ?_
    refine ((cH2) _).mono ?_
    rintro e wk20 ⟨rfl, hk20⟩
    refine ⟨_, rfl, ?_⟩
    have hp1_8_20 := (hp1_8_19).gr hk20
    have hp1_9_20 := (hp1_9_19).gr hk20
    have hPN15_20 := (hPN15_19).gr hk20
    have hPN16_20 := (hPN16_19).gr hk20
    have hF_20 := (hF_19).then hk20
    simp only [Act.put, zs, z0, z1]
    refine s_do (by rfl) ?_
    refine wp_notT rfl rfl ?_
    simp only [Act.put, zs, z0, z1]
    refine sF rfl ?_
    refine wp_pickF (v := .bool false) rfl rfl rfl ?_
    simp only [Act.put, zs, z0, z1]
    refine sF rfl ?_
    refine wM (v := .bool false) rfl rfl ?_
    simp only [Act.put, zs, z0, z1]
    refine s_do (by rfl) ?_
    refine wp_loadB rfl rfl (hPN15_20) ?_
    simp only [Act.put, zs, z0, z1]
    refine s_do (by rfl) ?_
    refine wp_loadB rfl rfl (hp1_8_20) ?_
    simp only [Act.put, zs, z0, z1]
    refine s_do (by rfl) ?_
    refine wp_call2 rfl rfl rfl (by go_simp) ?_
    refine ((cI1) _).mono ?_
    rintro e wk21 ⟨rfl, hk21⟩
    refine ⟨_, rfl, ?_⟩
    have hp1_8_21 := (hp1_8_20).gr hk21
    have hp1_9_21 := (hp1_9_20).gr hk21
    have hPN15_21 := (hPN15_20).gr hk21
    have hPN16_21 := (hPN16_20).gr hk21
    have hF_21 := (hF_20).then hk21
    simp only [Act.put, zs, z0, z1]
    refine s_do (by rfl) ?_
    refine wp_notT rfl rfl ?_
    simp only [Act.put, zs, z0, z1]
    refine sF rfl ?_
    refine wp_pickF (v := .bool false) rfl rfl rfl ?_
    simp only [Act.put, zs, z0, z1]
    refine sF rfl ?_
    refine wM (v := .bool false) rfl rfl ?_
    simp only [Act.put, zs, z0, z1]
    refine s_do (by rfl) ?_
    refine wp_loadB rfl rfl (hPN16_21) ?_
    simp only [Act.put, zs, z0, z1]
    refine s_do (by rfl) ?_
    refine wp_loadB rfl rfl (hp1_9_21) ?_
    simp only [Act.put, zs, z0, z1]
    refine s_do (by rfl) ?_
    refine wp_call2 rfl rfl rfl (by go_simp) ?_
    refine ((cI2) _).mono ?_
    rintro e wk22 ⟨rfl, hk22⟩
    refine ⟨_, rfl, ?_⟩
    have hp1_8_22 := (hp1_8_21).gr hk22
    have hp1_9_22 := (hp1_9_21).gr hk22
    have hPN15_22 := (hPN15_21).gr hk22
    have hPN16_22 := (hPN16_21).gr hk22
    have hF_22 := (hF_21).then hk22
    simp only [Act.put, zs, z0, z1]
    refine s_do (by rfl) ?_
    refine wp_notT rfl rfl ?_
    simp only [Act.put, zs, z0, z1]
    refine sF rfl ?_
    refine wp_pickF (v := .bool false) rfl rfl rfl ?_
    simp only [Act.put, zs, z0, z1]
    refine s_end ?_
    go_upto_region 7 with fail
    refine rG ?_
    refine sF rfl ?_
    refine wM (v := .int .u8 d) rfl rfl ?_
    simp only [Act.put, zs, z0, z1]
    refine sF rfl ?_
    refine wM (v := .bool wd) rfl rfl ?_
    simp only [Act.put, zs, z0, z1]
    refine sF rfl ?_
    refine wM (v := .bool false) rfl rfl ?_
    simp only [Act.put, zs, z0, z1]
    refine sF rfl ?_
    refine wp_notF rfl rfl ?_
    simp only [Act.put, zs, z0, z1]
    refine sF rfl ?_
    refine wp_loadB rfl rfl (hp1_8_22) ?_
    simp only [Act.put, zs, z0, z1]
    refine sF rfl ?_
    refine wp_loadB rfl rfl (hp1_9_22) ?_
    simp only [Act.put, zs, z0, z1]
    refine sF rfl ?_
    refine wp_call5 rfl rfl rfl rfl rfl rfl (by go_simp) ?_
    refine ((cR) _).mono ?_
    rintro e wk23 ⟨rfl, hk23⟩
    refine ⟨_, rfl, ?_⟩
    have hp1_8_23 := (hp1_8_22).gr hk23
    have hp1_9_23 := (hp1_9_22).gr hk23
    have hPN15_23 := (hPN15_22).gr hk23
    have hPN16_23 := (hPN16_22).gr hk23
    have hF_23 := (hF_22).then hk23
    simp only [Act.put, zs, z0, z1]
    refine sF rfl ?_
    refine wM (v := .tuple #[.agg (bv R1), .agg (bv R2), .bool true, .int .i64 0]) rfl rfl ?_
    simp only [Act.put, zs, z0, z1]
    refine sF rfl ?_
    refine wp_extract (v := .agg (bv R1)) rfl rfl rfl ?_
    simp only [Act.put, zs, z0, z1]
    refine sF rfl ?_
    refine wp_extract (v := .agg (bv R2)) rfl rfl rfl ?_
    simp only [Act.put, zs, z0, z1]
    refine sF rfl ?_
    refine wp_extract (v := .bool true) rfl rfl rfl ?_
    simp only [Act.put, zs, z0, z1]
    refine sF rfl ?_
    refine wp_extract (v := .int .i64 0) rfl rfl rfl ?_
    simp only [Act.put, zs, z0, z1]
    refine sF rfl ?_
    refine wp_allocB rfl ?_
    intro ws24 hn24 hg24
    obtain ⟨PN24, hb24⟩ : ∃ b, wk23.heap.size = b := ⟨_, rfl⟩
    rw [hb24] at hn24 ⊢
    have hge24 := Nat.le_trans (hF_23).size (Nat.le_of_eq hb24)
    have hnep1_8_PN24 : p1_8 ≠ PN24 := nl (hp1_8_23).lt hb24
    have hnep1_9_PN24 : p1_9 ≠ PN24 := nl (hp1_9_23).lt hb24
    have hnePN15_PN24 : PN15 ≠ PN24 := nl (hPN15_23).lt hb24
    have hnePN16_PN24 : PN16 ≠ PN24 := nl (hPN16_23).lt hb24
    have hp1_8_24 := (hp1_8_23).gr hg24
    have hp1_9_24 := (hp1_9_23).gr hg24
    have hPN15_24 := (hPN15_23).gr hg24
    have hPN16_24 := (hPN16_23).gr hg24
    have hF_24 := (hF_23).then hg24
    simp only [Act.put, zs, z0, z1]
    refine sF rfl ?_
    refine wp_allocB rfl ?_
    intro ws25 hn25 hg25
    obtain ⟨PN25, hb25⟩ : ∃ b, ws24.heap.size = b := ⟨_, rfl⟩
    rw [hb25] at hn25 ⊢
    have hge25 := Nat.le_trans (hF_24).size (Nat.le_of_eq hb25)
    have hnep1_8_PN25 : p1_8 ≠ PN25 := nl (hp1_8_24).lt hb25
    have hnep1_9_PN25 : p1_9 ≠ PN25 := nl (hp1_9_24).lt hb25
    have hnePN15_PN25 : PN15 ≠ PN25 := nl (hPN15_24).lt hb25
    have hnePN16_PN25 : PN16 ≠ PN25 := nl (hPN16_24).lt hb25
    have hnePN24_PN25 : PN24 ≠ PN25 := nl (hn24).lt hb25
    have hp1_8_25 := (hp1_8_24).gr hg25
    have hp1_9_25 := (hp1_9_24).gr hg25
    have hPN15_25 := (hPN15_24).gr hg25
    have hPN16_25 := (hPN16_24).gr hg25
    have hPN24_25 := (hn24).gr hg25
    have hF_25 := (hF_24).then hg25
    simp only [Act.put, zs, z0, z1]
    refine sF rfl ?_
    refine wp_storeB rfl rfl rfl (hPN24_25) ?_
    intro ws26 hs26 gx26
    have hp1_8_26 := (hp1_8_25).grx gx26 hnep1_8_PN24
    have hp1_9_26 := (hp1_9_25).grx gx26 hnep1_9_PN24
    have hPN15_26 := (hPN15_25).grx gx26 hnePN15_PN24
    have hPN16_26 := (hPN16_25).grx gx26 hnePN16_PN24
    have hPN25_26 := (hn25).grx gx26 (Ne.symm hnePN24_PN25)
    have hF_26 := (hF_25).thenx gx26 (.inr hge24)
    change AtA ws26 PN24 (bv R1) 30 at hs26
    simp only [Act.put, zs, z0, z1]
    refine sF rfl ?_
    refine wp_storeB rfl rfl rfl (hPN25_26) ?_
    intro ws27 hs27 gx27
    have hp1_8_27 := (hp1_8_26).grx gx27 hnep1_8_PN25
    have hp1_9_27 := (hp1_9_26).grx gx27 hnep1_9_PN25
    have hPN15_27 := (hPN15_26).grx gx27 hnePN15_PN25
    have hPN16_27 := (hPN16_26).grx gx27 hnePN16_PN25
    have hPN24_27 := (hs26).grx gx27 hnePN24_PN25
    have hF_27 := (hF_26).thenx gx27 (.inr hge25)
    change AtA ws27 PN25 (bv R2) 30 at hs27
    simp only [Act.put, zs, z0, z1]
    refine sF rfl ?_
    refine wA (v := .bool true) rfl rfl ?_
    simp only [Act.put, zs, z0, z1]
    refine sF rfl ?_
    refine wA (v := .int .i64 0) rfl rfl ?_
    simp only [Act.put, zs, z0, z1]
    refine s_end ?_
    go_upto_region 8 with fail
    refine rG ?_
    refine sF rfl ?_
    refine wM (v := .int .i64 0) rfl rfl ?_
    simp only [Act.put, zs, z0, z1]
    refine sF rfl ?_
    refine wp_neK rfl rfl ?_
    simp only [Act.put, zs, z0, z1]
    refine sF rfl ?_
    refine wM (v := .bool false) rfl rfl ?_
    simp only [Act.put, zs, z0, z1]
    refine s_do (by rfl) ?_
    refine wM (v := .bool true) rfl rfl ?_
    simp only [Act.put, zs, z0, z1]
    refine s_do (by rfl) ?_
    refine wM (v := .bool true) rfl rfl ?_
    simp only [Act.put, zs, z0, z1]
    refine s_do (by rfl) ?_
    refine wp_loadB rfl rfl (hPN24_27) ?_
    simp only [Act.put, zs, z0, z1]
    refine s_do (by rfl) ?_
    refine wp_loadB rfl rfl (hp1_8_27) ?_
    simp only [Act.put, zs, z0, z1]
    refine s_do (by rfl) ?_
    refine wp_call2 rfl rfl rfl (by go_simp) ?_
    refine ((cJ1) _).mono ?_
    rintro e wk28 ⟨rfl, hk28⟩
    refine ⟨_, rfl, ?_⟩
    have hp1_8_28 := (hp1_8_27).gr hk28
    have hp1_9_28 := (hp1_9_27).gr hk28
    have hPN15_28 := (hPN15_27).gr hk28
    have hPN16_28 := (hPN16_27).gr hk28
    have hPN24_28 := (hPN24_27).gr hk28
    have hPN25_28 := (hs27).gr hk28
    have hF_28 := (hF_27).then hk28
    simp only [Act.put, zs, z0, z1]
    refine s_do (by rfl) ?_
    refine wp_notT rfl rfl ?_
    simp only [Act.put, zs, z0, z1]
    refine s_do (by rfl) ?_
    refine wM (v := .bool false) rfl rfl ?_
    simp only [Act.put, zs, z0, z1]
    refine s_do (by rfl) ?_
    refine wp_loadB rfl rfl (hPN25_28) ?_
    simp only [Act.put, zs, z0, z1]
    refine s_do (by rfl) ?_
    refine wp_loadB rfl rfl (hp1_9_28) ?_
    simp only [Act.put, zs, z0, z1]
    refine s_do (by rfl) ?_
    refine wp_call2 rfl rfl rfl (by go_simp) ?_
    refine ((cJ2) _).mono ?_
    rintro e wk29 ⟨rfl, hk29⟩
    refine ⟨_, rfl, ?_⟩
    have hp1_8_29 := (hp1_8_28).gr hk29
    have hp1_9_29 := (hp1_9_28).gr hk29
    have hPN15_29 := (hPN15_28).gr hk29
    have hPN16_29 := (hPN16_28).gr hk29
    have hPN24_29 := (hPN24_28).gr hk29
    have hPN25_29 := (hPN25_28).gr hk29
    have hF_29 := (hF_28).then hk29
    simp only [Act.put, zs, z0, z1]
    refine s_do (by rfl) ?_
    refine wp_notT rfl rfl ?_
    simp only [Act.put, zs, z0, z1]
    refine s_do (by rfl) ?_
    refine wp_pickF (v := .bool false) rfl rfl rfl ?_
    simp only [Act.put, zs, z0, z1]
    refine s_do (by rfl) ?_
    refine wp_pickT (v := .bool false) rfl rfl rfl ?_
    simp only [Act.put, zs, z0, z1]
    refine sF rfl ?_
    refine wp_pickF (v := .bool false) rfl rfl rfl ?_
    simp only [Act.put, zs, z0, z1]
    refine sF rfl ?_
    refine wM (v := .bool false) rfl rfl ?_
    simp only [Act.put, zs, z0, z1]
    refine s_do (by rfl) ?_
    refine wM (v := .bool true) rfl rfl ?_
    simp only [Act.put, zs, z0, z1]
    refine s_do (by rfl) ?_
    refine wp_notT rfl rfl ?_
    simp only [Act.put, zs, z0, z1]
    refine s_do (by rfl) ?_
    refine wM (v := .bool false) rfl rfl ?_
    simp only [Act.put, zs, z0, z1]
    refine s_skip (by rfl) ?_
    simp only [Act.put, zs, z0, z1]
    refine s_skip (by rfl) ?_
    simp only [Act.put, zs, z0, z1]
    refine s_skip (by rfl) ?_
    simp only [Act.put, zs, z0, z1]
    refine s_skip (by rfl) ?_
    simp only [Act.put, zs, z0, z1]
    refine s_skip (by rfl) ?_
    simp only [Act.put, zs, z0, z1]
    refine s_skip (by rfl) ?_
    simp only [Act.put, zs, z0, z1]
    refine s_skip (by rfl) ?_
    simp only [Act.put, zs, z0, z1]
    refine s_skip (by rfl) ?_
    simp only [Act.put, zs, z0, z1]
    refine s_do (by rfl) ?_
    refine wp_pickF (v := .bool false) rfl rfl rfl ?_
    simp only [Act.put, zs, z0, z1]
    refine sF rfl ?_
    refine wp_pickF (v := .bool false) rfl rfl rfl ?_
    simp only [Act.put, zs, z0, z1]
    refine s_end ?_
    go_upto_region 10 with fail
    refine rG ?_
    refine sF rfl ?_
    refine wM (v := .int .u8 d) rfl rfl ?_
    simp only [Act.put, zs, z0, z1]
    refine sF rfl ?_
    refine wM (v := .bool wd) rfl rfl ?_
    simp only [Act.put, zs, z0, z1]
    refine sF rfl ?_
    refine wp_loadB rfl rfl (hp1_8_29) ?_
    simp only [Act.put, zs, z0, z1]
    refine sF rfl ?_
    refine wp_loadB rfl rfl (hp1_9_29) ?_
    simp only [Act.put, zs, z0, z1]
    refine sF rfl ?_
    refine wp_call4 rfl rfl rfl rfl rfl (by go_simp) ?_
    refine ((cS) _).mono ?_
    rintro e wk30 ⟨rfl, hk30⟩
    refine ⟨_, rfl, ?_⟩
    have hp1_8_30 := (hp1_8_29).gr hk30
    have hp1_9_30 := (hp1_9_29).gr hk30
    have hPN15_30 := (hPN15_29).gr hk30
    have hPN16_30 := (hPN16_29).gr hk30
    have hPN24_30 := (hPN24_29).gr hk30
    have hPN25_30 := (hPN25_29).gr hk30
    have hF_30 := (hF_29).then hk30
    simp only [Act.put, zs, z0, z1]
    refine sF rfl ?_
    refine wM (v := .tuple #[.bool false, .bool false, .int .i64 0]) rfl rfl ?_
    simp only [Act.put, zs, z0, z1]
    refine sF rfl ?_
    refine wp_extract (v := .bool false) rfl rfl rfl ?_
    simp only [Act.put, zs, z0, z1]
    refine sF rfl ?_
    refine wp_extract (v := .bool false) rfl rfl rfl ?_
    simp only [Act.put, zs, z0, z1]
    refine sF rfl ?_
    refine wp_extract (v := .int .i64 0) rfl rfl rfl ?_
    simp only [Act.put, zs, z0, z1]
    refine sF rfl ?_
    refine wA (v := .bool false) rfl rfl ?_
    simp only [Act.put, zs, z0, z1]
    refine sF rfl ?_
    refine wA (v := .bool false) rfl rfl ?_
    simp only [Act.put, zs, z0, z1]
    refine sF rfl ?_
    refine wA (v := .int .i64 0) rfl rfl ?_
    simp only [Act.put, zs, z0, z1]
    refine s_end ?_
    go_upto_region 11 with fail
    refine rG ?_
    refine sF rfl ?_
    refine wM (v := .int .i64 0) rfl rfl ?_
    simp only [Act.put, zs, z0, z1]
    refine sF rfl ?_
    refine wp_eqK rfl rfl ?_
    simp only [Act.put, zs, z0, z1]
    refine sF rfl ?_
    refine wM (v := .bool true) rfl rfl ?_
    simp only [Act.put, zs, z0, z1]
    refine s_do (by rfl) ?_
    refine wM (v := .bool false) rfl rfl ?_
    simp only [Act.put, zs, z0, z1]
    refine s_do (by rfl) ?_
    refine wp_notF rfl rfl ?_
    simp only [Act.put, zs, z0, z1]
    refine s_do (by rfl) ?_
    refine wM (v := .bool true) rfl rfl ?_
    simp only [Act.put, zs, z0, z1]
    refine s_skip (by rfl) ?_
    simp only [Act.put, zs, z0, z1]
    refine s_skip (by rfl) ?_
    simp only [Act.put, zs, z0, z1]
    refine s_skip (by rfl) ?_
    simp only [Act.put, zs, z0, z1]
    refine s_do (by rfl) ?_
    refine wp_pickT (v := .bool true) rfl rfl rfl ?_
    simp only [Act.put, zs, z0, z1]
    refine sF rfl ?_
    refine wp_pickT (v := .bool true) rfl rfl rfl ?_
    simp only [Act.put, zs, z0, z1]
    refine sF rfl ?_
    refine wM (v := .bool true) rfl rfl ?_
    simp only [Act.put, zs, z0, z1]
    refine s_do (by rfl) ?_
    refine wp_call0 rfl (by go_simp) ?_
    refine ((k_works) _).mono ?_
    rintro e wk31 ⟨rfl, hk31⟩
    refine ⟨_, rfl, ?_⟩
    have hp1_8_31 := (hp1_8_30).gr hk31
    have hp1_9_31 := (hp1_9_30).gr hk31
    have hPN15_31 := (hPN15_30).gr hk31
    have hPN16_31 := (hPN16_30).gr hk31
    have hPN24_31 := (hPN24_30).gr hk31
    have hPN25_31 := (hPN25_30).gr hk31
    have hF_31 := (hF_30).then hk31
    simp only [Act.put, zs, z0, z1]
    refine sF rfl ?_
    refine wp_pickT (v := .bool true) rfl rfl rfl ?_
    simp only [Act.put, zs, z0, z1]
    refine sF rfl ?_
    refine wA (v := .bool true) rfl rfl ?_
    simp only [Act.put, zs, z0, z1]
    refine s_end ?_
    go_wp2
    go_ret
    exact ⟨rfl, (hF_31).gr0⟩
  | true =>
   rw [es] at cA
   obtain ⟨P1, P2, eP, hP1, hP2, lP1, lP2, gP1, gP2⟩ := ref_keeps kgA kgB (tell_keeps hd kgA kgB kxA kyB es)
   have cP : ∀ w, Calls Tryz.prog 29 #[.int .u8 d, .bool wd, .bool true, .agg (bv A), .agg (bv B)] w fun e w' => e = .returned (.tuple #[.agg (bv P1), .agg (bv P2), .bool true, .int .i64 0]) ∧ Gr w w' := fun w => by
    have z := k_ref (wd := wd) (so := true) hd kgA kgB w
    rw [eP] at z
    exact z
   have cH1 := fun w => k_has P1 x w
   rw [(hasM_iff _ _).2 hP1] at cH1
   have cH2 := fun w => k_has P2 y w
   rw [(hasM_iff _ _).2 hP2] at cH2
   have cI1 := fun w => k_in P1 A w
   rw [inM_of gP1 lP1] at cI1
   have cI2 := fun w => k_in P2 B w
   rw [inM_of gP2 lP2] at cI2
   have cS0 := fun w => k_sure d hd wd A B kgA kgB w
   rw [eP] at cS0
   cases eR : refM (tellM d wd false A B) with
   | none =>
    have cR : ∀ w, Calls Tryz.prog 29 #[.int .u8 d, .bool wd, .bool false, .agg (bv A), .agg (bv B)] w fun e w' => e = .returned (.tuple #[.agg (bv nothingM), .agg (bv nothingM), .bool false, .int .i64 0]) ∧ Gr w w' := fun w => by
     have z := k_ref (wd := wd) (so := false) hd kgA kgB w
     rw [eR] at z
     exact z
    have cN := fun w => k_none nothingM w
    rw [nothing_nn] at cN
    have cS : ∀ w, Calls Tryz.prog 30 #[.int .u8 d, .bool wd, .agg (bv A), .agg (bv B)] w fun e w' => e = .returned (.tuple #[.bool true, .bool true, .int .i64 0]) ∧ Gr w w' := fun w => by
     have z := cS0 w
     rw [eR] at z
     exact z
    clear cS0
    go_upto_region 2 with fail
    refine rG ?_
    refine sF rfl ?_
    refine wM (v := .int .u8 c) rfl rfl ?_
    simp only [Act.put, zs, z0, z1]
    refine sF rfl ?_
    refine wp_call1 rfl rfl (by go_simp) ?_
    refine ((cd) _).mono ?_
    rintro e wk12 ⟨rfl, hk12⟩
    refine ⟨_, rfl, ?_⟩
    have hp1_8_12 := (zp1_8).gr hk12
    have hp1_9_12 := (zp1_9).gr hk12
    have hF_12 := (hGL).then hk12
    simp only [Act.put, zs, z0, z1]
    refine sF rfl ?_
    refine wA (v := .int .u8 d) rfl rfl ?_
    simp only [Act.put, zs, z0, z1]
    refine s_end ?_
    go_upto_region 3 with fail
    refine rG ?_
    refine sF rfl ?_
    refine wM (v := .int .u8 d) rfl rfl ?_
    simp only [Act.put, zs, z0, z1]
    refine sF rfl ?_
    refine wM (v := .bool wd) rfl rfl ?_
    simp only [Act.put, zs, z0, z1]
    refine sF rfl ?_
    refine wM (v := .int .u64 (iv x)) rfl rfl ?_
    simp only [Act.put, zs, z0, z1]
    refine sF rfl ?_
    refine wM (v := .int .u64 (iv y)) rfl rfl ?_
    simp only [Act.put, zs, z0, z1]
    refine sF rfl ?_
    refine wp_call4 rfl rfl rfl rfl rfl (by go_simp) ?_
    refine ((cA) _).mono ?_
    rintro e wk13 ⟨rfl, hk13⟩
    refine ⟨_, rfl, ?_⟩
    have hp1_8_13 := (hp1_8_12).gr hk13
    have hp1_9_13 := (hp1_9_12).gr hk13
    have hF_13 := (hF_12).then hk13
    simp only [Act.put, zs, z0, z1]
    refine sF rfl ?_
    refine wM (v := .tuple #[.bool true, .int .i64 0]) rfl rfl ?_
    simp only [Act.put, zs, z0, z1]
    refine sF rfl ?_
    refine wp_extract (v := .bool true) rfl rfl rfl ?_
    simp only [Act.put, zs, z0, z1]
    refine sF rfl ?_
    refine wp_extract (v := .int .i64 0) rfl rfl rfl ?_
    simp only [Act.put, zs, z0, z1]
    refine sF rfl ?_
    refine wA (v := .bool true) rfl rfl ?_
    simp only [Act.put, zs, z0, z1]
    refine sF rfl ?_
    refine wA (v := .int .i64 0) rfl rfl ?_
    simp only [Act.put, zs, z0, z1]
    refine s_end ?_
    go_upto_region 4 with fail
    refine rG ?_
    refine sF rfl ?_
    refine wM (v := .int .u8 d) rfl rfl ?_
    simp only [Act.put, zs, z0, z1]
    refine sF rfl ?_
    refine wM (v := .bool wd) rfl rfl ?_
    simp only [Act.put, zs, z0, z1]
    refine sF rfl ?_
    refine wM (v := .bool true) rfl rfl ?_
    simp only [Act.put, zs, z0, z1]
    refine sF rfl ?_
    refine wp_loadB rfl rfl (hp1_8_13) ?_
    simp only [Act.put, zs, z0, z1]
    refine sF rfl ?_
    refine wp_loadB rfl rfl (hp1_9_13) ?_
    simp only [Act.put, zs, z0, z1]
    refine sF rfl ?_
    refine wp_call5 rfl rfl rfl rfl rfl rfl (by go_simp) ?_
    refine ((cP) _).mono ?_
    rintro e wk14 ⟨rfl, hk14⟩
    refine ⟨_, rfl, ?_⟩
    have hp1_8_14 := (hp1_8_13).gr hk14
    have hp1_9_14 := (hp1_9_13).gr hk14
    have hF_14 := (hF_13).then hk14
    simp only [Act.put, zs, z0, z1]
    refine sF rfl ?_
    refine wM (v := .tuple #[.agg (bv P1), .agg (bv P2), .bool true, .int .i64 0]) rfl rfl ?_
    simp only [Act.put, zs, z0, z1]
    refine sF rfl ?_
    refine wp_extract (v := .agg (bv P1)) rfl rfl rfl ?_
    simp only [Act.put, zs, z0, z1]
    refine sF rfl ?_
    refine wp_extract (v := .agg (bv P2)) rfl rfl rfl ?_
    simp only [Act.put, zs, z0, z1]
    refine sF rfl ?_
    refine wp_extract (v := .bool true) rfl rfl rfl ?_
    simp only [Act.put, zs, z0, z1]
    refine sF rfl ?_
    refine wp_extract (v := .int .i64 0) rfl rfl rfl ?_
    simp only [Act.put, zs, z0, z1]
    refine sF rfl ?_
    refine wp_allocB rfl ?_
    intro ws15 hn15 hg15
    obtain ⟨PN15, hb15⟩ : ∃ b, wk14.heap.size = b := ⟨_, rfl⟩
    rw [hb15] at hn15 ⊢
    have hge15 := Nat.le_trans (hF_14).size (Nat.le_of_eq hb15)
    have hnep1_8_PN15 : p1_8 ≠ PN15 := nl (hp1_8_14).lt hb15
    have hnep1_9_PN15 : p1_9 ≠ PN15 := nl (hp1_9_14).lt hb15
    have hp1_8_15 := (hp1_8_14).gr hg15
    have hp1_9_15 := (hp1_9_14).gr hg15
    have hF_15 := (hF_14).then hg15
    simp only [Act.put, zs, z0, z1]
    refine sF rfl ?_
    refine wp_allocB rfl ?_
    intro ws16 hn16 hg16
    obtain ⟨PN16, hb16⟩ : ∃ b, ws15.heap.size = b := ⟨_, rfl⟩
    rw [hb16] at hn16 ⊢
    have hge16 := Nat.le_trans (hF_15).size (Nat.le_of_eq hb16)
    have hnep1_8_PN16 : p1_8 ≠ PN16 := nl (hp1_8_15).lt hb16
    have hnep1_9_PN16 : p1_9 ≠ PN16 := nl (hp1_9_15).lt hb16
    have hnePN15_PN16 : PN15 ≠ PN16 := nl (hn15).lt hb16
    have hp1_8_16 := (hp1_8_15).gr hg16
    have hp1_9_16 := (hp1_9_15).gr hg16
    have hPN15_16 := (hn15).gr hg16
    have hF_16 := (hF_15).then hg16
    simp only [Act.put, zs, z0, z1]
    refine sF rfl ?_
    refine wp_storeB rfl rfl rfl (hPN15_16) ?_
    intro ws17 hs17 gx17
    have hp1_8_17 := (hp1_8_16).grx gx17 hnep1_8_PN15
    have hp1_9_17 := (hp1_9_16).grx gx17 hnep1_9_PN15
    have hPN16_17 := (hn16).grx gx17 (Ne.symm hnePN15_PN16)
    have hF_17 := (hF_16).thenx gx17 (.inr hge15)
    change AtA ws17 PN15 (bv P1) 30 at hs17
    simp only [Act.put, zs, z0, z1]
    refine sF rfl ?_
    refine wp_storeB rfl rfl rfl (hPN16_17) ?_
    intro ws18 hs18 gx18
    have hp1_8_18 := (hp1_8_17).grx gx18 hnep1_8_PN16
    have hp1_9_18 := (hp1_9_17).grx gx18 hnep1_9_PN16
    have hPN15_18 := (hs17).grx gx18 hnePN15_PN16
    have hF_18 := (hF_17).thenx gx18 (.inr hge16)
    change AtA ws18 PN16 (bv P2) 30 at hs18
    simp only [Act.put, zs, z0, z1]
    refine sF rfl ?_
    refine wA (v := .bool true) rfl rfl ?_
    simp only [Act.put, zs, z0, z1]
    refine sF rfl ?_
    refine wA (v := .int .i64 0) rfl rfl ?_
    simp only [Act.put, zs, z0, z1]
    refine s_end ?_
    go_upto_region 5 with fail
    refine rG ?_
    refine sF rfl ?_
    refine wM (v := .int .i64 0) rfl rfl ?_
    simp only [Act.put, zs, z0, z1]
    refine sF rfl ?_
    refine wp_neK rfl rfl ?_
    simp only [Act.put, zs, z0, z1]
    refine sF rfl ?_
    refine wM (v := .bool false) rfl rfl ?_
    simp only [Act.put, zs, z0, z1]
    refine s_do (by rfl) ?_
    refine wM (v := .int .i64 0) rfl rfl ?_
    simp only [Act.put, zs, z0, z1]
    refine s_do (by rfl) ?_
    refine wp_neK rfl rfl ?_
    simp only [Act.put, zs, z0, z1]
    refine sF rfl ?_
    refine wp_pickF (v := .bool false) rfl rfl rfl ?_
    simp only [Act.put, zs, z0, z1]
    refine sF rfl ?_
    refine wM (v := .bool false) rfl rfl ?_
    simp only [Act.put, zs, z0, z1]
    refine s_do (by rfl) ?_
    refine wM (v := .bool true) rfl rfl ?_
    simp only [Act.put, zs, z0, z1]
    refine s_do (by rfl) ?_
    refine wp_notT rfl rfl ?_
    simp only [Act.put, zs, z0, z1]
    refine sF rfl ?_
    refine wp_pickF (v := .bool false) rfl rfl rfl ?_
    simp only [Act.put, zs, z0, z1]
    refine sF rfl ?_
    refine wM (v := .bool false) rfl rfl ?_
    simp only [Act.put, zs, z0, z1]
    refine s_do (by rfl) ?_
    refine wp_loadB rfl rfl (hPN15_18) ?_
    simp only [Act.put, zs, z0, z1]
    refine s_do (by rfl) ?_
    refine wM (v := .int .u64 (iv x)) rfl rfl ?_
    simp only [Act.put, zs, z0, z1]
    refine s_do (by rfl) ?_
    refine wp_call2 rfl rfl rfl (by go_simp) ?_
    refine ((cH1) _).mono ?_
    rintro e wk19 ⟨rfl, hk19⟩
    refine ⟨_, rfl, ?_⟩
    have hp1_8_19 := (hp1_8_18).gr hk19
    have hp1_9_19 := (hp1_9_18).gr hk19
    have hPN15_19 := (hPN15_18).gr hk19
    have hPN16_19 := (hs18).gr hk19
    have hF_19 := (hF_18).then hk19
    simp only [Act.put, zs, z0, z1]
    refine s_do (by rfl) ?_
    refine wp_notT rfl rfl ?_
    simp only [Act.put, zs, z0, z1]
    refine sF rfl ?_
    refine wp_pickF (v := .bool false) rfl rfl rfl ?_
    simp only [Act.put, zs, z0, z1]
    refine sF rfl ?_
    refine wM (v := .bool false) rfl rfl ?_
    simp only [Act.put, zs, z0, z1]
    refine s_do (by rfl) ?_
    refine wp_loadB rfl rfl (hPN16_19) ?_
    simp only [Act.put, zs, z0, z1]
    refine s_do (by rfl) ?_
    refine wM (v := .int .u64 (iv y)) rfl rfl ?_
    simp only [Act.put, zs, z0, z1]
    refine s_do (by rfl) ?_
    refine wp_call2 rfl rfl rfl (by go_simp) ?_
    refine ((cH2) _).mono ?_
    rintro e wk20 ⟨rfl, hk20⟩
    refine ⟨_, rfl, ?_⟩
    have hp1_8_20 := (hp1_8_19).gr hk20
    have hp1_9_20 := (hp1_9_19).gr hk20
    have hPN15_20 := (hPN15_19).gr hk20
    have hPN16_20 := (hPN16_19).gr hk20
    have hF_20 := (hF_19).then hk20
    simp only [Act.put, zs, z0, z1]
    refine s_do (by rfl) ?_
    refine wp_notT rfl rfl ?_
    simp only [Act.put, zs, z0, z1]
    refine sF rfl ?_
    refine wp_pickF (v := .bool false) rfl rfl rfl ?_
    simp only [Act.put, zs, z0, z1]
    refine sF rfl ?_
    refine wM (v := .bool false) rfl rfl ?_
    simp only [Act.put, zs, z0, z1]
    refine s_do (by rfl) ?_
    refine wp_loadB rfl rfl (hPN15_20) ?_
    simp only [Act.put, zs, z0, z1]
    refine s_do (by rfl) ?_
    refine wp_loadB rfl rfl (hp1_8_20) ?_
    simp only [Act.put, zs, z0, z1]
    refine s_do (by rfl) ?_
    refine wp_call2 rfl rfl rfl (by go_simp) ?_
    refine ((cI1) _).mono ?_
    rintro e wk21 ⟨rfl, hk21⟩
    refine ⟨_, rfl, ?_⟩
    have hp1_8_21 := (hp1_8_20).gr hk21
    have hp1_9_21 := (hp1_9_20).gr hk21
    have hPN15_21 := (hPN15_20).gr hk21
    have hPN16_21 := (hPN16_20).gr hk21
    have hF_21 := (hF_20).then hk21
    simp only [Act.put, zs, z0, z1]
    refine s_do (by rfl) ?_
    refine wp_notT rfl rfl ?_
    simp only [Act.put, zs, z0, z1]
    refine sF rfl ?_
    refine wp_pickF (v := .bool false) rfl rfl rfl ?_
    simp only [Act.put, zs, z0, z1]
    refine sF rfl ?_
    refine wM (v := .bool false) rfl rfl ?_
    simp only [Act.put, zs, z0, z1]
    refine s_do (by rfl) ?_
    refine wp_loadB rfl rfl (hPN16_21) ?_
    simp only [Act.put, zs, z0, z1]
    refine s_do (by rfl) ?_
    refine wp_loadB rfl rfl (hp1_9_21) ?_
    simp only [Act.put, zs, z0, z1]
    refine s_do (by rfl) ?_
    refine wp_call2 rfl rfl rfl (by go_simp) ?_
    refine ((cI2) _).mono ?_
    rintro e wk22 ⟨rfl, hk22⟩
    refine ⟨_, rfl, ?_⟩
    have hp1_8_22 := (hp1_8_21).gr hk22
    have hp1_9_22 := (hp1_9_21).gr hk22
    have hPN15_22 := (hPN15_21).gr hk22
    have hPN16_22 := (hPN16_21).gr hk22
    have hF_22 := (hF_21).then hk22
    simp only [Act.put, zs, z0, z1]
    refine s_do (by rfl) ?_
    refine wp_notT rfl rfl ?_
    simp only [Act.put, zs, z0, z1]
    refine sF rfl ?_
    refine wp_pickF (v := .bool false) rfl rfl rfl ?_
    simp only [Act.put, zs, z0, z1]
    refine s_end ?_
    go_upto_region 7 with fail
    refine rG ?_
    refine sF rfl ?_
    refine wM (v := .int .u8 d) rfl rfl ?_
    simp only [Act.put, zs, z0, z1]
    refine sF rfl ?_
    refine wM (v := .bool wd) rfl rfl ?_
    simp only [Act.put, zs, z0, z1]
    refine sF rfl ?_
    refine wM (v := .bool true) rfl rfl ?_
    simp only [Act.put, zs, z0, z1]
    refine sF rfl ?_
    refine wp_notT rfl rfl ?_
    simp only [Act.put, zs, z0, z1]
    refine sF rfl ?_
    refine wp_loadB rfl rfl (hp1_8_22) ?_
    simp only [Act.put, zs, z0, z1]
    refine sF rfl ?_
    refine wp_loadB rfl rfl (hp1_9_22) ?_
    simp only [Act.put, zs, z0, z1]
    refine sF rfl ?_
    refine wp_call5 rfl rfl rfl rfl rfl rfl (by go_simp) ?_
    refine ((cR) _).mono ?_
    rintro e wk23 ⟨rfl, hk23⟩
    refine ⟨_, rfl, ?_⟩
    have hp1_8_23 := (hp1_8_22).gr hk23
    have hp1_9_23 := (hp1_9_22).gr hk23
    have hPN15_23 := (hPN15_22).gr hk23
    have hPN16_23 := (hPN16_22).gr hk23
    have hF_23 := (hF_22).then hk23
    simp only [Act.put, zs, z0, z1]
    refine sF rfl ?_
    refine wM (v := .tuple #[.agg (bv nothingM), .agg (bv nothingM), .bool false, .int .i64 0]) rfl rfl ?_
    simp only [Act.put, zs, z0, z1]
    refine sF rfl ?_
    refine wp_extract (v := .agg (bv nothingM)) rfl rfl rfl ?_
    simp only [Act.put, zs, z0, z1]
    refine sF rfl ?_
    refine wp_extract (v := .agg (bv nothingM)) rfl rfl rfl ?_
    simp only [Act.put, zs, z0, z1]
    refine sF rfl ?_
    refine wp_extract (v := .bool false) rfl rfl rfl ?_
    simp only [Act.put, zs, z0, z1]
    refine sF rfl ?_
    refine wp_extract (v := .int .i64 0) rfl rfl rfl ?_
    simp only [Act.put, zs, z0, z1]
    refine sF rfl ?_
    refine wp_allocB rfl ?_
    intro ws24 hn24 hg24
    obtain ⟨PN24, hb24⟩ : ∃ b, wk23.heap.size = b := ⟨_, rfl⟩
    rw [hb24] at hn24 ⊢
    have hge24 := Nat.le_trans (hF_23).size (Nat.le_of_eq hb24)
    have hnep1_8_PN24 : p1_8 ≠ PN24 := nl (hp1_8_23).lt hb24
    have hnep1_9_PN24 : p1_9 ≠ PN24 := nl (hp1_9_23).lt hb24
    have hnePN15_PN24 : PN15 ≠ PN24 := nl (hPN15_23).lt hb24
    have hnePN16_PN24 : PN16 ≠ PN24 := nl (hPN16_23).lt hb24
    have hp1_8_24 := (hp1_8_23).gr hg24
    have hp1_9_24 := (hp1_9_23).gr hg24
    have hPN15_24 := (hPN15_23).gr hg24
    have hPN16_24 := (hPN16_23).gr hg24
    have hF_24 := (hF_23).then hg24
    simp only [Act.put, zs, z0, z1]
    refine sF rfl ?_
    refine wp_allocB rfl ?_
    intro ws25 hn25 hg25
    obtain ⟨PN25, hb25⟩ : ∃ b, ws24.heap.size = b := ⟨_, rfl⟩
    rw [hb25] at hn25 ⊢
    have hge25 := Nat.le_trans (hF_24).size (Nat.le_of_eq hb25)
    have hnep1_8_PN25 : p1_8 ≠ PN25 := nl (hp1_8_24).lt hb25
    have hnep1_9_PN25 : p1_9 ≠ PN25 := nl (hp1_9_24).lt hb25
    have hnePN15_PN25 : PN15 ≠ PN25 := nl (hPN15_24).lt hb25
    have hnePN16_PN25 : PN16 ≠ PN25 := nl (hPN16_24).lt hb25
    have hnePN24_PN25 : PN24 ≠ PN25 := nl (hn24).lt hb25
    have hp1_8_25 := (hp1_8_24).gr hg25
    have hp1_9_25 := (hp1_9_24).gr hg25
    have hPN15_25 := (hPN15_24).gr hg25
    have hPN16_25 := (hPN16_24).gr hg25
    have hPN24_25 := (hn24).gr hg25
    have hF_25 := (hF_24).then hg25
    simp only [Act.put, zs, z0, z1]
    refine sF rfl ?_
    refine wp_storeB rfl rfl rfl (hPN24_25) ?_
    intro ws26 hs26 gx26
    have hp1_8_26 := (hp1_8_25).grx gx26 hnep1_8_PN24
    have hp1_9_26 := (hp1_9_25).grx gx26 hnep1_9_PN24
    have hPN15_26 := (hPN15_25).grx gx26 hnePN15_PN24
    have hPN16_26 := (hPN16_25).grx gx26 hnePN16_PN24
    have hPN25_26 := (hn25).grx gx26 (Ne.symm hnePN24_PN25)
    have hF_26 := (hF_25).thenx gx26 (.inr hge24)
    change AtA ws26 PN24 (bv nothingM) 30 at hs26
    simp only [Act.put, zs, z0, z1]
    refine sF rfl ?_
    refine wp_storeB rfl rfl rfl (hPN25_26) ?_
    intro ws27 hs27 gx27
    have hp1_8_27 := (hp1_8_26).grx gx27 hnep1_8_PN25
    have hp1_9_27 := (hp1_9_26).grx gx27 hnep1_9_PN25
    have hPN15_27 := (hPN15_26).grx gx27 hnePN15_PN25
    have hPN16_27 := (hPN16_26).grx gx27 hnePN16_PN25
    have hPN24_27 := (hs26).grx gx27 hnePN24_PN25
    have hF_27 := (hF_26).thenx gx27 (.inr hge25)
    change AtA ws27 PN25 (bv nothingM) 30 at hs27
    simp only [Act.put, zs, z0, z1]
    refine sF rfl ?_
    refine wA (v := .bool false) rfl rfl ?_
    simp only [Act.put, zs, z0, z1]
    refine sF rfl ?_
    refine wA (v := .int .i64 0) rfl rfl ?_
    simp only [Act.put, zs, z0, z1]
    refine s_end ?_
    go_upto_region 8 with fail
    refine rG ?_
    refine sF rfl ?_
    refine wM (v := .int .i64 0) rfl rfl ?_
    simp only [Act.put, zs, z0, z1]
    refine sF rfl ?_
    refine wp_neK rfl rfl ?_
    simp only [Act.put, zs, z0, z1]
    refine sF rfl ?_
    refine wM (v := .bool false) rfl rfl ?_
    simp only [Act.put, zs, z0, z1]
    refine s_do (by rfl) ?_
    refine wM (v := .bool false) rfl rfl ?_
    simp only [Act.put, zs, z0, z1]
    refine s_do (by rfl) ?_
    refine wM (v := .bool false) rfl rfl ?_
    simp only [Act.put, zs, z0, z1]
    refine s_skip (by rfl) ?_
    simp only [Act.put, zs, z0, z1]
    refine s_skip (by rfl) ?_
    simp only [Act.put, zs, z0, z1]
    refine s_skip (by rfl) ?_
    simp only [Act.put, zs, z0, z1]
    refine s_skip (by rfl) ?_
    simp only [Act.put, zs, z0, z1]
    refine s_skip (by rfl) ?_
    simp only [Act.put, zs, z0, z1]
    refine s_skip (by rfl) ?_
    simp only [Act.put, zs, z0, z1]
    refine s_skip (by rfl) ?_
    simp only [Act.put, zs, z0, z1]
    refine s_skip (by rfl) ?_
    simp only [Act.put, zs, z0, z1]
    refine s_skip (by rfl) ?_
    simp only [Act.put, zs, z0, z1]
    refine s_skip (by rfl) ?_
    simp only [Act.put, zs, z0, z1]
    refine s_do (by rfl) ?_
    refine wp_pickF (v := .bool false) rfl rfl rfl ?_
    simp only [Act.put, zs, z0, z1]
    refine sF rfl ?_
    refine wp_pickF (v := .bool false) rfl rfl rfl ?_
    simp only [Act.put, zs, z0, z1]
    refine sF rfl ?_
    refine wM (v := .bool false) rfl rfl ?_
    simp only [Act.put, zs, z0, z1]
    refine s_do (by rfl) ?_
    refine wM (v := .bool false) rfl rfl ?_
    simp only [Act.put, zs, z0, z1]
    refine s_do (by rfl) ?_
    refine wp_notF rfl rfl ?_
    simp only [Act.put, zs, z0, z1]
    refine s_do (by rfl) ?_
    refine wM (v := .bool true) rfl rfl ?_
    simp only [Act.put, zs, z0, z1]
    refine s_do (by rfl) ?_
    refine wp_loadB rfl rfl (hPN24_27) ?_
    simp only [Act.put, zs, z0, z1]
    refine s_do (by rfl) ?_
    refine wp_call1 rfl rfl (by go_simp) ?_
    refine ((cN) _).mono ?_
    rintro e wk28 ⟨rfl, hk28⟩
    refine ⟨_, rfl, ?_⟩
    have hp1_8_28 := (hp1_8_27).gr hk28
    have hp1_9_28 := (hp1_9_27).gr hk28
    have hPN15_28 := (hPN15_27).gr hk28
    have hPN16_28 := (hPN16_27).gr hk28
    have hPN24_28 := (hPN24_27).gr hk28
    have hPN25_28 := (hs27).gr hk28
    have hF_28 := (hF_27).then hk28
    simp only [Act.put, zs, z0, z1]
    refine s_do (by rfl) ?_
    refine wp_notT rfl rfl ?_
    simp only [Act.put, zs, z0, z1]
    refine s_do (by rfl) ?_
    refine wM (v := .bool false) rfl rfl ?_
    simp only [Act.put, zs, z0, z1]
    refine s_do (by rfl) ?_
    refine wp_loadB rfl rfl (hPN25_28) ?_
    simp only [Act.put, zs, z0, z1]
    refine s_do (by rfl) ?_
    refine wp_call1 rfl rfl (by go_simp) ?_
    refine ((cN) _).mono ?_
    rintro e wk29 ⟨rfl, hk29⟩
    refine ⟨_, rfl, ?_⟩
    have hp1_8_29 := (hp1_8_28).gr hk29
    have hp1_9_29 := (hp1_9_28).gr hk29
    have hPN15_29 := (hPN15_28).gr hk29
    have hPN16_29 := (hPN16_28).gr hk29
    have hPN24_29 := (hPN24_28).gr hk29
    have hPN25_29 := (hPN25_28).gr hk29
    have hF_29 := (hF_28).then hk29
    simp only [Act.put, zs, z0, z1]
    refine s_do (by rfl) ?_
    refine wp_notT rfl rfl ?_
    simp only [Act.put, zs, z0, z1]
    refine s_do (by rfl) ?_
    refine wp_pickF (v := .bool false) rfl rfl rfl ?_
    simp only [Act.put, zs, z0, z1]
    refine s_do (by rfl) ?_
    refine wp_pickT (v := .bool false) rfl rfl rfl ?_
    simp only [Act.put, zs, z0, z1]
    refine sF rfl ?_
    refine wp_pickF (v := .bool false) rfl rfl rfl ?_
    simp only [Act.put, zs, z0, z1]
    refine s_end ?_
    go_upto_region 10 with fail
    refine rG ?_
    refine sF rfl ?_
    refine wM (v := .int .u8 d) rfl rfl ?_
    simp only [Act.put, zs, z0, z1]
    refine sF rfl ?_
    refine wM (v := .bool wd) rfl rfl ?_
    simp only [Act.put, zs, z0, z1]
    refine sF rfl ?_
    refine wp_loadB rfl rfl (hp1_8_29) ?_
    simp only [Act.put, zs, z0, z1]
    refine sF rfl ?_
    refine wp_loadB rfl rfl (hp1_9_29) ?_
    simp only [Act.put, zs, z0, z1]
    refine sF rfl ?_
    refine wp_call4 rfl rfl rfl rfl rfl (by go_simp) ?_
    refine ((cS) _).mono ?_
    rintro e wk30 ⟨rfl, hk30⟩
    refine ⟨_, rfl, ?_⟩
    have hp1_8_30 := (hp1_8_29).gr hk30
    have hp1_9_30 := (hp1_9_29).gr hk30
    have hPN15_30 := (hPN15_29).gr hk30
    have hPN16_30 := (hPN16_29).gr hk30
    have hPN24_30 := (hPN24_29).gr hk30
    have hPN25_30 := (hPN25_29).gr hk30
    have hF_30 := (hF_29).then hk30
    simp only [Act.put, zs, z0, z1]
    refine sF rfl ?_
    refine wM (v := .tuple #[.bool true, .bool true, .int .i64 0]) rfl rfl ?_
    simp only [Act.put, zs, z0, z1]
    refine sF rfl ?_
    refine wp_extract (v := .bool true) rfl rfl rfl ?_
    simp only [Act.put, zs, z0, z1]
    refine sF rfl ?_
    refine wp_extract (v := .bool true) rfl rfl rfl ?_
    simp only [Act.put, zs, z0, z1]
    refine sF rfl ?_
    refine wp_extract (v := .int .i64 0) rfl rfl rfl ?_
    simp only [Act.put, zs, z0, z1]
    refine sF rfl ?_
    refine wA (v := .bool true) rfl rfl ?_
    simp only [Act.put, zs, z0, z1]
    refine sF rfl ?_
    refine wA (v := .bool true) rfl rfl ?_
    simp only [Act.put, zs, z0, z1]
    refine sF rfl ?_
    refine wA (v := .int .i64 0) rfl rfl ?_
    simp only [Act.put, zs, z0, z1]
    refine s_end ?_
    go_upto_region 11 with fail
    refine rG ?_
    refine sF rfl ?_
    refine wM (v := .int .i64 0) rfl rfl ?_
    simp only [Act.put, zs, z0, z1]
    refine sF rfl ?_
    refine wp_eqK rfl rfl ?_
    simp only [Act.put, zs, z0, z1]
    refine sF rfl ?_
    refine wM (v := .bool true) rfl rfl ?_
    simp only [Act.put, zs, z0, z1]
    refine s_do (by rfl) ?_
    refine wM (v := .bool true) rfl rfl ?_
    simp only [Act.put, zs, z0, z1]
    refine s_do (by rfl) ?_
    refine wp_notT rfl rfl ?_
    simp only [Act.put, zs, z0, z1]
    refine s_do (by rfl) ?_
    refine wM (v := .bool false) rfl rfl ?_
    simp only [Act.put, zs, z0, z1]
    refine s_do (by rfl) ?_
    refine wM (v := .bool true) rfl rfl ?_
    simp only [Act.put, zs, z0, z1]
    refine s_do (by rfl) ?_
    refine wM (v := .bool true) rfl rfl ?_
    simp only [Act.put, zs, z0, z1]
    refine s_do (by rfl) ?_
    refine wp_eqB_t rfl rfl rfl ?_
    simp only [Act.put, zs, z0, z1]
    refine s_do (by rfl) ?_
    refine wp_pickF (v := .bool true) rfl rfl rfl ?_
    simp only [Act.put, zs, z0, z1]
    refine sF rfl ?_
    refine wp_pickT (v := .bool true) rfl rfl rfl ?_
    simp only [Act.put, zs, z0, z1]
    refine sF rfl ?_
    refine wM (v := .bool true) rfl rfl ?_
    simp only [Act.put, zs, z0, z1]
    refine s_do (by rfl) ?_
    refine wp_call0 rfl (by go_simp) ?_
    refine ((k_works) _).mono ?_
    rintro e wk31 ⟨rfl, hk31⟩
    refine ⟨_, rfl, ?_⟩
    have hp1_8_31 := (hp1_8_30).gr hk31
    have hp1_9_31 := (hp1_9_30).gr hk31
    have hPN15_31 := (hPN15_30).gr hk31
    have hPN16_31 := (hPN16_30).gr hk31
    have hPN24_31 := (hPN24_30).gr hk31
    have hPN25_31 := (hPN25_30).gr hk31
    have hF_31 := (hF_30).then hk31
    simp only [Act.put, zs, z0, z1]
    refine sF rfl ?_
    refine wp_pickT (v := .bool true) rfl rfl rfl ?_
    simp only [Act.put, zs, z0, z1]
    refine sF rfl ?_
    refine wA (v := .bool true) rfl rfl ?_
    simp only [Act.put, zs, z0, z1]
    refine s_end ?_
    go_wp2
    go_ret
    exact ⟨rfl, (hF_31).gr0⟩
   | some pr =>
    obtain ⟨R1, R2⟩ := pr
    obtain ⟨lR1, lR2, gR1, gR2⟩ := ref_fair (tell_fair hd kgA kgB) eR
    have cR : ∀ w, Calls Tryz.prog 29 #[.int .u8 d, .bool wd, .bool false, .agg (bv A), .agg (bv B)] w fun e w' => e = .returned (.tuple #[.agg (bv R1), .agg (bv R2), .bool true, .int .i64 0]) ∧ Gr w w' := fun w => by
     have z := k_ref (wd := wd) (so := false) hd kgA kgB w
     rw [eR] at z
     exact z
    have cJ1 := fun w => k_in R1 A w
    rw [inM_of gR1 lR1] at cJ1
    have cJ2 := fun w => k_in R2 B w
    rw [inM_of gR2 lR2] at cJ2
    have cS : ∀ w, Calls Tryz.prog 30 #[.int .u8 d, .bool wd, .agg (bv A), .agg (bv B)] w fun e w' => e = .returned (.tuple #[.bool false, .bool false, .int .i64 0]) ∧ Gr w w' := fun w => by
     have z := cS0 w
     rw [eR] at z
     exact z
    clear cS0
    go_upto_region 2 with fail
    refine rG ?_
    refine sF rfl ?_
    refine wM (v := .int .u8 c) rfl rfl ?_
    simp only [Act.put, zs, z0, z1]
    refine sF rfl ?_
    refine wp_call1 rfl rfl (by go_simp) ?_
    refine ((cd) _).mono ?_
    rintro e wk12 ⟨rfl, hk12⟩
    refine ⟨_, rfl, ?_⟩
    have hp1_8_12 := (zp1_8).gr hk12
    have hp1_9_12 := (zp1_9).gr hk12
    have hF_12 := (hGL).then hk12
    simp only [Act.put, zs, z0, z1]
    refine sF rfl ?_
    refine wA (v := .int .u8 d) rfl rfl ?_
    simp only [Act.put, zs, z0, z1]
    refine s_end ?_
    go_upto_region 3 with fail
    refine rG ?_
    refine sF rfl ?_
    refine wM (v := .int .u8 d) rfl rfl ?_
    simp only [Act.put, zs, z0, z1]
    refine sF rfl ?_
    refine wM (v := .bool wd) rfl rfl ?_
    simp only [Act.put, zs, z0, z1]
    refine sF rfl ?_
    refine wM (v := .int .u64 (iv x)) rfl rfl ?_
    simp only [Act.put, zs, z0, z1]
    refine sF rfl ?_
    refine wM (v := .int .u64 (iv y)) rfl rfl ?_
    simp only [Act.put, zs, z0, z1]
    refine sF rfl ?_
    refine wp_call4 rfl rfl rfl rfl rfl (by go_simp) ?_
    refine ((cA) _).mono ?_
    rintro e wk13 ⟨rfl, hk13⟩
    refine ⟨_, rfl, ?_⟩
    have hp1_8_13 := (hp1_8_12).gr hk13
    have hp1_9_13 := (hp1_9_12).gr hk13
    have hF_13 := (hF_12).then hk13
    simp only [Act.put, zs, z0, z1]
    refine sF rfl ?_
    refine wM (v := .tuple #[.bool true, .int .i64 0]) rfl rfl ?_
    simp only [Act.put, zs, z0, z1]
    refine sF rfl ?_
    refine wp_extract (v := .bool true) rfl rfl rfl ?_
    simp only [Act.put, zs, z0, z1]
    refine sF rfl ?_
    refine wp_extract (v := .int .i64 0) rfl rfl rfl ?_
    simp only [Act.put, zs, z0, z1]
    refine sF rfl ?_
    refine wA (v := .bool true) rfl rfl ?_
    simp only [Act.put, zs, z0, z1]
    refine sF rfl ?_
    refine wA (v := .int .i64 0) rfl rfl ?_
    simp only [Act.put, zs, z0, z1]
    refine s_end ?_
    go_upto_region 4 with fail
    refine rG ?_
    refine sF rfl ?_
    refine wM (v := .int .u8 d) rfl rfl ?_
    simp only [Act.put, zs, z0, z1]
    refine sF rfl ?_
    refine wM (v := .bool wd) rfl rfl ?_
    simp only [Act.put, zs, z0, z1]
    refine sF rfl ?_
    refine wM (v := .bool true) rfl rfl ?_
    simp only [Act.put, zs, z0, z1]
    refine sF rfl ?_
    refine wp_loadB rfl rfl (hp1_8_13) ?_
    simp only [Act.put, zs, z0, z1]
    refine sF rfl ?_
    refine wp_loadB rfl rfl (hp1_9_13) ?_
    simp only [Act.put, zs, z0, z1]
    refine sF rfl ?_
    refine wp_call5 rfl rfl rfl rfl rfl rfl (by go_simp) ?_
    refine ((cP) _).mono ?_
    rintro e wk14 ⟨rfl, hk14⟩
    refine ⟨_, rfl, ?_⟩
    have hp1_8_14 := (hp1_8_13).gr hk14
    have hp1_9_14 := (hp1_9_13).gr hk14
    have hF_14 := (hF_13).then hk14
    simp only [Act.put, zs, z0, z1]
    refine sF rfl ?_
    refine wM (v := .tuple #[.agg (bv P1), .agg (bv P2), .bool true, .int .i64 0]) rfl rfl ?_
    simp only [Act.put, zs, z0, z1]
    refine sF rfl ?_
    refine wp_extract (v := .agg (bv P1)) rfl rfl rfl ?_
    simp only [Act.put, zs, z0, z1]
    refine sF rfl ?_
    refine wp_extract (v := .agg (bv P2)) rfl rfl rfl ?_
    simp only [Act.put, zs, z0, z1]
    refine sF rfl ?_
    refine wp_extract (v := .bool true) rfl rfl rfl ?_
    simp only [Act.put, zs, z0, z1]
    refine sF rfl ?_
    refine wp_extract (v := .int .i64 0) rfl rfl rfl ?_
    simp only [Act.put, zs, z0, z1]
    refine sF rfl ?_
    refine wp_allocB rfl ?_
    intro ws15 hn15 hg15
    obtain ⟨PN15, hb15⟩ : ∃ b, wk14.heap.size = b := ⟨_, rfl⟩
    rw [hb15] at hn15 ⊢
    have hge15 := Nat.le_trans (hF_14).size (Nat.le_of_eq hb15)
    have hnep1_8_PN15 : p1_8 ≠ PN15 := nl (hp1_8_14).lt hb15
    have hnep1_9_PN15 : p1_9 ≠ PN15 := nl (hp1_9_14).lt hb15
    have hp1_8_15 := (hp1_8_14).gr hg15
    have hp1_9_15 := (hp1_9_14).gr hg15
    have hF_15 := (hF_14).then hg15
    simp only [Act.put, zs, z0, z1]
    refine sF rfl ?_
    refine wp_allocB rfl ?_
    intro ws16 hn16 hg16
    obtain ⟨PN16, hb16⟩ : ∃ b, ws15.heap.size = b := ⟨_, rfl⟩
    rw [hb16] at hn16 ⊢
    have hge16 := Nat.le_trans (hF_15).size (Nat.le_of_eq hb16)
    have hnep1_8_PN16 : p1_8 ≠ PN16 := nl (hp1_8_15).lt hb16
    have hnep1_9_PN16 : p1_9 ≠ PN16 := nl (hp1_9_15).lt hb16
    have hnePN15_PN16 : PN15 ≠ PN16 := nl (hn15).lt hb16
    have hp1_8_16 := (hp1_8_15).gr hg16
    have hp1_9_16 := (hp1_9_15).gr hg16
    have hPN15_16 := (hn15).gr hg16
    have hF_16 := (hF_15).then hg16
    simp only [Act.put, zs, z0, z1]
    refine sF rfl ?_
    refine wp_storeB rfl rfl rfl (hPN15_16) ?_
    intro ws17 hs17 gx17
    have hp1_8_17 := (hp1_8_16).grx gx17 hnep1_8_PN15
    have hp1_9_17 := (hp1_9_16).grx gx17 hnep1_9_PN15
    have hPN16_17 := (hn16).grx gx17 (Ne.symm hnePN15_PN16)
    have hF_17 := (hF_16).thenx gx17 (.inr hge15)
    change AtA ws17 PN15 (bv P1) 30 at hs17
    simp only [Act.put, zs, z0, z1]
    refine sF rfl ?_
    refine wp_storeB rfl rfl rfl (hPN16_17) ?_
    intro ws18 hs18 gx18
    have hp1_8_18 := (hp1_8_17).grx gx18 hnep1_8_PN16
    have hp1_9_18 := (hp1_9_17).grx gx18 hnep1_9_PN16
    have hPN15_18 := (hs17).grx gx18 hnePN15_PN16
    have hF_18 := (hF_17).thenx gx18 (.inr hge16)
    change AtA ws18 PN16 (bv P2) 30 at hs18
    simp only [Act.put, zs, z0, z1]
    refine sF rfl ?_
    refine wA (v := .bool true) rfl rfl ?_
    simp only [Act.put, zs, z0, z1]
    refine sF rfl ?_
    refine wA (v := .int .i64 0) rfl rfl ?_
    simp only [Act.put, zs, z0, z1]
    refine s_end ?_
    go_upto_region 5 with fail
    refine rG ?_
    refine sF rfl ?_
    refine wM (v := .int .i64 0) rfl rfl ?_
    simp only [Act.put, zs, z0, z1]
    refine sF rfl ?_
    refine wp_neK rfl rfl ?_
    simp only [Act.put, zs, z0, z1]
    refine sF rfl ?_
    refine wM (v := .bool false) rfl rfl ?_
    simp only [Act.put, zs, z0, z1]
    refine s_do (by rfl) ?_
    refine wM (v := .int .i64 0) rfl rfl ?_
    simp only [Act.put, zs, z0, z1]
    refine s_do (by rfl) ?_
    refine wp_neK rfl rfl ?_
    simp only [Act.put, zs, z0, z1]
    refine sF rfl ?_
    refine wp_pickF (v := .bool false) rfl rfl rfl ?_
    simp only [Act.put, zs, z0, z1]
    refine sF rfl ?_
    refine wM (v := .bool false) rfl rfl ?_
    simp only [Act.put, zs, z0, z1]
    refine s_do (by rfl) ?_
    refine wM (v := .bool true) rfl rfl ?_
    simp only [Act.put, zs, z0, z1]
    refine s_do (by rfl) ?_
    refine wp_notT rfl rfl ?_
    simp only [Act.put, zs, z0, z1]
    refine sF rfl ?_
    refine wp_pickF (v := .bool false) rfl rfl rfl ?_
    simp only [Act.put, zs, z0, z1]
    refine sF rfl ?_
    refine wM (v := .bool false) rfl rfl ?_
    simp only [Act.put, zs, z0, z1]
    refine s_do (by rfl) ?_
    refine wp_loadB rfl rfl (hPN15_18) ?_
    simp only [Act.put, zs, z0, z1]
    refine s_do (by rfl) ?_
    refine wM (v := .int .u64 (iv x)) rfl rfl ?_
    simp only [Act.put, zs, z0, z1]
    refine s_do (by rfl) ?_
    refine wp_call2 rfl rfl rfl (by go_simp) ?_
    refine ((cH1) _).mono ?_
    rintro e wk19 ⟨rfl, hk19⟩
    refine ⟨_, rfl, ?_⟩
    have hp1_8_19 := (hp1_8_18).gr hk19
    have hp1_9_19 := (hp1_9_18).gr hk19
    have hPN15_19 := (hPN15_18).gr hk19
    have hPN16_19 := (hs18).gr hk19
    have hF_19 := (hF_18).then hk19
    simp only [Act.put, zs, z0, z1]
    refine s_do (by rfl) ?_
    refine wp_notT rfl rfl ?_
    simp only [Act.put, zs, z0, z1]
    refine sF rfl ?_
    refine wp_pickF (v := .bool false) rfl rfl rfl ?_
    simp only [Act.put, zs, z0, z1]
    refine sF rfl ?_
    refine wM (v := .bool false) rfl rfl ?_
    simp only [Act.put, zs, z0, z1]
    refine s_do (by rfl) ?_
    refine wp_loadB rfl rfl (hPN16_19) ?_
    simp only [Act.put, zs, z0, z1]
    refine s_do (by rfl) ?_
    refine wM (v := .int .u64 (iv y)) rfl rfl ?_
    simp only [Act.put, zs, z0, z1]
    refine s_do (by rfl) ?_
    refine wp_call2 rfl rfl rfl (by go_simp) ?_
    refine ((cH2) _).mono ?_
    rintro e wk20 ⟨rfl, hk20⟩
    refine ⟨_, rfl, ?_⟩
    have hp1_8_20 := (hp1_8_19).gr hk20
    have hp1_9_20 := (hp1_9_19).gr hk20
    have hPN15_20 := (hPN15_19).gr hk20
    have hPN16_20 := (hPN16_19).gr hk20
    have hF_20 := (hF_19).then hk20
    simp only [Act.put, zs, z0, z1]
    refine s_do (by rfl) ?_
    refine wp_notT rfl rfl ?_
    simp only [Act.put, zs, z0, z1]
    refine sF rfl ?_
    refine wp_pickF (v := .bool false) rfl rfl rfl ?_
    simp only [Act.put, zs, z0, z1]
    refine sF rfl ?_
    refine wM (v := .bool false) rfl rfl ?_
    simp only [Act.put, zs, z0, z1]
    refine s_do (by rfl) ?_
    refine wp_loadB rfl rfl (hPN15_20) ?_
    simp only [Act.put, zs, z0, z1]
    refine s_do (by rfl) ?_
    refine wp_loadB rfl rfl (hp1_8_20) ?_
    simp only [Act.put, zs, z0, z1]
    refine s_do (by rfl) ?_
    refine wp_call2 rfl rfl rfl (by go_simp) ?_
    refine ((cI1) _).mono ?_
    rintro e wk21 ⟨rfl, hk21⟩
    refine ⟨_, rfl, ?_⟩
    have hp1_8_21 := (hp1_8_20).gr hk21
    have hp1_9_21 := (hp1_9_20).gr hk21
    have hPN15_21 := (hPN15_20).gr hk21
    have hPN16_21 := (hPN16_20).gr hk21
    have hF_21 := (hF_20).then hk21
    simp only [Act.put, zs, z0, z1]
    refine s_do (by rfl) ?_
    refine wp_notT rfl rfl ?_
    simp only [Act.put, zs, z0, z1]
    refine sF rfl ?_
    refine wp_pickF (v := .bool false) rfl rfl rfl ?_
    simp only [Act.put, zs, z0, z1]
    refine sF rfl ?_
    refine wM (v := .bool false) rfl rfl ?_
    simp only [Act.put, zs, z0, z1]
    refine s_do (by rfl) ?_
    refine wp_loadB rfl rfl (hPN16_21) ?_
    simp only [Act.put, zs, z0, z1]
    refine s_do (by rfl) ?_
    refine wp_loadB rfl rfl (hp1_9_21) ?_
    simp only [Act.put, zs, z0, z1]
    refine s_do (by rfl) ?_
    refine wp_call2 rfl rfl rfl (by go_simp) ?_
    refine ((cI2) _).mono ?_
    rintro e wk22 ⟨rfl, hk22⟩
    refine ⟨_, rfl, ?_⟩
    have hp1_8_22 := (hp1_8_21).gr hk22
    have hp1_9_22 := (hp1_9_21).gr hk22
    have hPN15_22 := (hPN15_21).gr hk22
    have hPN16_22 := (hPN16_21).gr hk22
    have hF_22 := (hF_21).then hk22
    simp only [Act.put, zs, z0, z1]
    refine s_do (by rfl) ?_
    refine wp_notT rfl rfl ?_
    simp only [Act.put, zs, z0, z1]
    refine sF rfl ?_
    refine wp_pickF (v := .bool false) rfl rfl rfl ?_
    simp only [Act.put, zs, z0, z1]
    refine s_end ?_
    go_upto_region 7 with fail
    refine rG ?_
    refine sF rfl ?_
    refine wM (v := .int .u8 d) rfl rfl ?_
    simp only [Act.put, zs, z0, z1]
    refine sF rfl ?_
    refine wM (v := .bool wd) rfl rfl ?_
    simp only [Act.put, zs, z0, z1]
    refine sF rfl ?_
    refine wM (v := .bool true) rfl rfl ?_
    simp only [Act.put, zs, z0, z1]
    refine sF rfl ?_
    refine wp_notT rfl rfl ?_
    simp only [Act.put, zs, z0, z1]
    refine sF rfl ?_
    refine wp_loadB rfl rfl (hp1_8_22) ?_
    simp only [Act.put, zs, z0, z1]
    refine sF rfl ?_
    refine wp_loadB rfl rfl (hp1_9_22) ?_
    simp only [Act.put, zs, z0, z1]
    refine sF rfl ?_
    refine wp_call5 rfl rfl rfl rfl rfl rfl (by go_simp) ?_
    refine ((cR) _).mono ?_
    rintro e wk23 ⟨rfl, hk23⟩
    refine ⟨_, rfl, ?_⟩
    have hp1_8_23 := (hp1_8_22).gr hk23
    have hp1_9_23 := (hp1_9_22).gr hk23
    have hPN15_23 := (hPN15_22).gr hk23
    have hPN16_23 := (hPN16_22).gr hk23
    have hF_23 := (hF_22).then hk23
    simp only [Act.put, zs, z0, z1]
    refine sF rfl ?_
    refine wM (v := .tuple #[.agg (bv R1), .agg (bv R2), .bool true, .int .i64 0]) rfl rfl ?_
    simp only [Act.put, zs, z0, z1]
    refine sF rfl ?_
    refine wp_extract (v := .agg (bv R1)) rfl rfl rfl ?_
    simp only [Act.put, zs, z0, z1]
    refine sF rfl ?_
    refine wp_extract (v := .agg (bv R2)) rfl rfl rfl ?_
    simp only [Act.put, zs, z0, z1]
    refine sF rfl ?_
    refine wp_extract (v := .bool true) rfl rfl rfl ?_
    simp only [Act.put, zs, z0, z1]
    refine sF rfl ?_
    refine wp_extract (v := .int .i64 0) rfl rfl rfl ?_
    simp only [Act.put, zs, z0, z1]
    refine sF rfl ?_
    refine wp_allocB rfl ?_
    intro ws24 hn24 hg24
    obtain ⟨PN24, hb24⟩ : ∃ b, wk23.heap.size = b := ⟨_, rfl⟩
    rw [hb24] at hn24 ⊢
    have hge24 := Nat.le_trans (hF_23).size (Nat.le_of_eq hb24)
    have hnep1_8_PN24 : p1_8 ≠ PN24 := nl (hp1_8_23).lt hb24
    have hnep1_9_PN24 : p1_9 ≠ PN24 := nl (hp1_9_23).lt hb24
    have hnePN15_PN24 : PN15 ≠ PN24 := nl (hPN15_23).lt hb24
    have hnePN16_PN24 : PN16 ≠ PN24 := nl (hPN16_23).lt hb24
    have hp1_8_24 := (hp1_8_23).gr hg24
    have hp1_9_24 := (hp1_9_23).gr hg24
    have hPN15_24 := (hPN15_23).gr hg24
    have hPN16_24 := (hPN16_23).gr hg24
    have hF_24 := (hF_23).then hg24
    simp only [Act.put, zs, z0, z1]
    refine sF rfl ?_
    refine wp_allocB rfl ?_
    intro ws25 hn25 hg25
    obtain ⟨PN25, hb25⟩ : ∃ b, ws24.heap.size = b := ⟨_, rfl⟩
    rw [hb25] at hn25 ⊢
    have hge25 := Nat.le_trans (hF_24).size (Nat.le_of_eq hb25)
    have hnep1_8_PN25 : p1_8 ≠ PN25 := nl (hp1_8_24).lt hb25
    have hnep1_9_PN25 : p1_9 ≠ PN25 := nl (hp1_9_24).lt hb25
    have hnePN15_PN25 : PN15 ≠ PN25 := nl (hPN15_24).lt hb25
    have hnePN16_PN25 : PN16 ≠ PN25 := nl (hPN16_24).lt hb25
    have hnePN24_PN25 : PN24 ≠ PN25 := nl (hn24).lt hb25
    have hp1_8_25 := (hp1_8_24).gr hg25
    have hp1_9_25 := (hp1_9_24).gr hg25
    have hPN15_25 := (hPN15_24).gr hg25
    have hPN16_25 := (hPN16_24).gr hg25
    have hPN24_25 := (hn24).gr hg25
    have hF_25 := (hF_24).then hg25
    simp only [Act.put, zs, z0, z1]
    refine sF rfl ?_
    refine wp_storeB rfl rfl rfl (hPN24_25) ?_
    intro ws26 hs26 gx26
    have hp1_8_26 := (hp1_8_25).grx gx26 hnep1_8_PN24
    have hp1_9_26 := (hp1_9_25).grx gx26 hnep1_9_PN24
    have hPN15_26 := (hPN15_25).grx gx26 hnePN15_PN24
    have hPN16_26 := (hPN16_25).grx gx26 hnePN16_PN24
    have hPN25_26 := (hn25).grx gx26 (Ne.symm hnePN24_PN25)
    have hF_26 := (hF_25).thenx gx26 (.inr hge24)
    change AtA ws26 PN24 (bv R1) 30 at hs26
    simp only [Act.put, zs, z0, z1]
    refine sF rfl ?_
    refine wp_storeB rfl rfl rfl (hPN25_26) ?_
    intro ws27 hs27 gx27
    have hp1_8_27 := (hp1_8_26).grx gx27 hnep1_8_PN25
    have hp1_9_27 := (hp1_9_26).grx gx27 hnep1_9_PN25
    have hPN15_27 := (hPN15_26).grx gx27 hnePN15_PN25
    have hPN16_27 := (hPN16_26).grx gx27 hnePN16_PN25
    have hPN24_27 := (hs26).grx gx27 hnePN24_PN25
    have hF_27 := (hF_26).thenx gx27 (.inr hge25)
    change AtA ws27 PN25 (bv R2) 30 at hs27
    simp only [Act.put, zs, z0, z1]
    refine sF rfl ?_
    refine wA (v := .bool true) rfl rfl ?_
    simp only [Act.put, zs, z0, z1]
    refine sF rfl ?_
    refine wA (v := .int .i64 0) rfl rfl ?_
    simp only [Act.put, zs, z0, z1]
    refine s_end ?_
    go_upto_region 8 with fail
    refine rG ?_
    refine sF rfl ?_
    refine wM (v := .int .i64 0) rfl rfl ?_
    simp only [Act.put, zs, z0, z1]
    refine sF rfl ?_
    refine wp_neK rfl rfl ?_
    simp only [Act.put, zs, z0, z1]
    refine sF rfl ?_
    refine wM (v := .bool false) rfl rfl ?_
    simp only [Act.put, zs, z0, z1]
    refine s_do (by rfl) ?_
    refine wM (v := .bool true) rfl rfl ?_
    simp only [Act.put, zs, z0, z1]
    refine s_do (by rfl) ?_
    refine wM (v := .bool true) rfl rfl ?_
    simp only [Act.put, zs, z0, z1]
    refine s_do (by rfl) ?_
    refine wp_loadB rfl rfl (hPN24_27) ?_
    simp only [Act.put, zs, z0, z1]
    refine s_do (by rfl) ?_
    refine wp_loadB rfl rfl (hp1_8_27) ?_
    simp only [Act.put, zs, z0, z1]
    refine s_do (by rfl) ?_
    refine wp_call2 rfl rfl rfl (by go_simp) ?_
    refine ((cJ1) _).mono ?_
    rintro e wk28 ⟨rfl, hk28⟩
    refine ⟨_, rfl, ?_⟩
    have hp1_8_28 := (hp1_8_27).gr hk28
    have hp1_9_28 := (hp1_9_27).gr hk28
    have hPN15_28 := (hPN15_27).gr hk28
    have hPN16_28 := (hPN16_27).gr hk28
    have hPN24_28 := (hPN24_27).gr hk28
    have hPN25_28 := (hs27).gr hk28
    have hF_28 := (hF_27).then hk28
    simp only [Act.put, zs, z0, z1]
    refine s_do (by rfl) ?_
    refine wp_notT rfl rfl ?_
    simp only [Act.put, zs, z0, z1]
    refine s_do (by rfl) ?_
    refine wM (v := .bool false) rfl rfl ?_
    simp only [Act.put, zs, z0, z1]
    refine s_do (by rfl) ?_
    refine wp_loadB rfl rfl (hPN25_28) ?_
    simp only [Act.put, zs, z0, z1]
    refine s_do (by rfl) ?_
    refine wp_loadB rfl rfl (hp1_9_28) ?_
    simp only [Act.put, zs, z0, z1]
    refine s_do (by rfl) ?_
    refine wp_call2 rfl rfl rfl (by go_simp) ?_
    refine ((cJ2) _).mono ?_
    rintro e wk29 ⟨rfl, hk29⟩
    refine ⟨_, rfl, ?_⟩
    have hp1_8_29 := (hp1_8_28).gr hk29
    have hp1_9_29 := (hp1_9_28).gr hk29
    have hPN15_29 := (hPN15_28).gr hk29
    have hPN16_29 := (hPN16_28).gr hk29
    have hPN24_29 := (hPN24_28).gr hk29
    have hPN25_29 := (hPN25_28).gr hk29
    have hF_29 := (hF_28).then hk29
    simp only [Act.put, zs, z0, z1]
    refine s_do (by rfl) ?_
    refine wp_notT rfl rfl ?_
    simp only [Act.put, zs, z0, z1]
    refine s_do (by rfl) ?_
    refine wp_pickF (v := .bool false) rfl rfl rfl ?_
    simp only [Act.put, zs, z0, z1]
    refine s_do (by rfl) ?_
    refine wp_pickT (v := .bool false) rfl rfl rfl ?_
    simp only [Act.put, zs, z0, z1]
    refine sF rfl ?_
    refine wp_pickF (v := .bool false) rfl rfl rfl ?_
    simp only [Act.put, zs, z0, z1]
    refine sF rfl ?_
    refine wM (v := .bool false) rfl rfl ?_
    simp only [Act.put, zs, z0, z1]
    refine s_do (by rfl) ?_
    refine wM (v := .bool true) rfl rfl ?_
    simp only [Act.put, zs, z0, z1]
    refine s_do (by rfl) ?_
    refine wp_notT rfl rfl ?_
    simp only [Act.put, zs, z0, z1]
    refine s_do (by rfl) ?_
    refine wM (v := .bool false) rfl rfl ?_
    simp only [Act.put, zs, z0, z1]
    refine s_skip (by rfl) ?_
    simp only [Act.put, zs, z0, z1]
    refine s_skip (by rfl) ?_
    simp only [Act.put, zs, z0, z1]
    refine s_skip (by rfl) ?_
    simp only [Act.put, zs, z0, z1]
    refine s_skip (by rfl) ?_
    simp only [Act.put, zs, z0, z1]
    refine s_skip (by rfl) ?_
    simp only [Act.put, zs, z0, z1]
    refine s_skip (by rfl) ?_
    simp only [Act.put, zs, z0, z1]
    refine s_skip (by rfl) ?_
    simp only [Act.put, zs, z0, z1]
    refine s_skip (by rfl) ?_
    simp only [Act.put, zs, z0, z1]
    refine s_do (by rfl) ?_
    refine wp_pickF (v := .bool false) rfl rfl rfl ?_
    simp only [Act.put, zs, z0, z1]
    refine sF rfl ?_
    refine wp_pickF (v := .bool false) rfl rfl rfl ?_
    simp only [Act.put, zs, z0, z1]
    refine s_end ?_
    go_upto_region 10 with fail
    refine rG ?_
    refine sF rfl ?_
    refine wM (v := .int .u8 d) rfl rfl ?_
    simp only [Act.put, zs, z0, z1]
    refine sF rfl ?_
    refine wM (v := .bool wd) rfl rfl ?_
    simp only [Act.put, zs, z0, z1]
    refine sF rfl ?_
    refine wp_loadB rfl rfl (hp1_8_29) ?_
    simp only [Act.put, zs, z0, z1]
    refine sF rfl ?_
    refine wp_loadB rfl rfl (hp1_9_29) ?_
    simp only [Act.put, zs, z0, z1]
    refine sF rfl ?_
    refine wp_call4 rfl rfl rfl rfl rfl (by go_simp) ?_
    refine ((cS) _).mono ?_
    rintro e wk30 ⟨rfl, hk30⟩
    refine ⟨_, rfl, ?_⟩
    have hp1_8_30 := (hp1_8_29).gr hk30
    have hp1_9_30 := (hp1_9_29).gr hk30
    have hPN15_30 := (hPN15_29).gr hk30
    have hPN16_30 := (hPN16_29).gr hk30
    have hPN24_30 := (hPN24_29).gr hk30
    have hPN25_30 := (hPN25_29).gr hk30
    have hF_30 := (hF_29).then hk30
    simp only [Act.put, zs, z0, z1]
    refine sF rfl ?_
    refine wM (v := .tuple #[.bool false, .bool false, .int .i64 0]) rfl rfl ?_
    simp only [Act.put, zs, z0, z1]
    refine sF rfl ?_
    refine wp_extract (v := .bool false) rfl rfl rfl ?_
    simp only [Act.put, zs, z0, z1]
    refine sF rfl ?_
    refine wp_extract (v := .bool false) rfl rfl rfl ?_
    simp only [Act.put, zs, z0, z1]
    refine sF rfl ?_
    refine wp_extract (v := .int .i64 0) rfl rfl rfl ?_
    simp only [Act.put, zs, z0, z1]
    refine sF rfl ?_
    refine wA (v := .bool false) rfl rfl ?_
    simp only [Act.put, zs, z0, z1]
    refine sF rfl ?_
    refine wA (v := .bool false) rfl rfl ?_
    simp only [Act.put, zs, z0, z1]
    refine sF rfl ?_
    refine wA (v := .int .i64 0) rfl rfl ?_
    simp only [Act.put, zs, z0, z1]
    refine s_end ?_
    go_upto_region 11 with fail
    refine rG ?_
    refine sF rfl ?_
    refine wM (v := .int .i64 0) rfl rfl ?_
    simp only [Act.put, zs, z0, z1]
    refine sF rfl ?_
    refine wp_eqK rfl rfl ?_
    simp only [Act.put, zs, z0, z1]
    refine sF rfl ?_
    refine wM (v := .bool true) rfl rfl ?_
    simp only [Act.put, zs, z0, z1]
    refine s_do (by rfl) ?_
    refine wM (v := .bool false) rfl rfl ?_
    simp only [Act.put, zs, z0, z1]
    refine s_do (by rfl) ?_
    refine wp_notF rfl rfl ?_
    simp only [Act.put, zs, z0, z1]
    refine s_do (by rfl) ?_
    refine wM (v := .bool true) rfl rfl ?_
    simp only [Act.put, zs, z0, z1]
    refine s_skip (by rfl) ?_
    simp only [Act.put, zs, z0, z1]
    refine s_skip (by rfl) ?_
    simp only [Act.put, zs, z0, z1]
    refine s_skip (by rfl) ?_
    simp only [Act.put, zs, z0, z1]
    refine s_do (by rfl) ?_
    refine wp_pickT (v := .bool true) rfl rfl rfl ?_
    simp only [Act.put, zs, z0, z1]
    refine sF rfl ?_
    refine wp_pickT (v := .bool true) rfl rfl rfl ?_
    simp only [Act.put, zs, z0, z1]
    refine sF rfl ?_
    refine wM (v := .bool true) rfl rfl ?_
    simp only [Act.put, zs, z0, z1]
    refine s_do (by rfl) ?_
    refine wp_call0 rfl (by go_simp) ?_
    refine ((k_works) _).mono ?_
    rintro e wk31 ⟨rfl, hk31⟩
    refine ⟨_, rfl, ?_⟩
    have hp1_8_31 := (hp1_8_30).gr hk31
    have hp1_9_31 := (hp1_9_30).gr hk31
    have hPN15_31 := (hPN15_30).gr hk31
    have hPN16_31 := (hPN16_30).gr hk31
    have hPN24_31 := (hPN24_30).gr hk31
    have hPN25_31 := (hPN25_30).gr hk31
    have hF_31 := (hF_30).then hk31
    simp only [Act.put, zs, z0, z1]
    refine sF rfl ?_
    refine wp_pickT (v := .bool true) rfl rfl rfl ?_
    simp only [Act.put, zs, z0, z1]
    refine sF rfl ?_
    refine wA (v := .bool true) rfl rfl ?_
    simp only [Act.put, zs, z0, z1]
    refine s_end ?_
    go_wp2
    go_ret
    exact ⟨rfl, (hF_31).gr0⟩
end Go.Proofs.YtcbcijibgpaipaaGreat
