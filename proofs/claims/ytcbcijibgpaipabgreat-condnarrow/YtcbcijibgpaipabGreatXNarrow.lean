/- Towards the statement CondNarrow: its walk. -/
import Derived.Test.YtcbcijibgpaipabGreatXE
import Derived.Deep.DeepCutAuto
namespace Go.Proofs.YtcbcijibgpaipabGreat
open Go.ChangeShapes Go.WideShapes Go.ChangeAt Go.RowKit
open Tn (iv)
set_option linter.unusedVariables false
set_option linter.unusedSimpArgs false
set_option maxRecDepth 20000

theorem wp_eqK {o : Oper} {a : Act} {w : World} {K : Act → World → Prop} {Q : Exit → Act → World → Prop} {x : Operand} (ho : o.op = .binOp .eql 38 x (.const (.int .i64 0)) 38) (hx : a.eval x = .int .i64 0) (hK : K (a.put o.dst (.bool true)) w) : o.wp Tryz.prog a w K Q := by
  obtain ⟨dst, op, ty, pos, after, guard⟩ := o
  subst ho
  unfold Oper.wp
  simp only [execOp, hx]
  go_simp
  exact hK
theorem gw_of {w w' : World} (h : Wd.Gr w w') : Gr w w' := ⟨h.below, h.grown⟩
theorem errA_code {d : Int} (h : codeM d) : Wd.errA d = 0 := by
  rcases h with rfl | rfl | rfl | rfl | rfl | rfl | rfl | rfl | rfl | rfl | rfl | rfl <;> rfl
theorem codeM_nn {d : Int} (h : codeM d) : 0 ≤ d := by
  rcases h with rfl | rfl | rfl | rfl | rfl | rfl | rfl | rfl | rfl | rfl | rfl | rfl <;> decide
theorem iv_in (z : BitVec 64) : 0 ≤ iv z ∧ iv z ≤ 18446744073709551615 := inU_iv z
set_option maxHeartbeats 16000000 in
theorem narrow_law (u v t : Ab) (hu : AbOk u) (hv : AbOk v) (ht : AbOk t) (x y : BitVec 64) (c : Int) (h0 : 0 ≤ c) (h1 : c ≤ 255) (wd : Bool) (w : World) : Calls Tryz.prog 3 #[.int .u64 (iv x), .int .u64 (iv y), .agg #[.int .u64 (iv u.ma), .int .u64 u.dn, .int .u64 u.up, .int .u64 u.ls, .int .u64 u.mo, .int .u32 u.hf, .int .u32 u.tp], .agg #[.int .u64 (iv v.ma), .int .u64 v.dn, .int .u64 v.up, .int .u64 v.ls, .int .u64 v.mo, .int .u32 v.hf, .int .u32 v.tp], .agg #[.int .u64 (iv t.ma), .int .u64 t.dn, .int .u64 t.up, .int .u64 t.ls, .int .u64 t.mo, .int .u32 t.hf, .int .u32 t.tp], .int .u8 c, .bool wd] w fun e w' => e = .returned (.bool true) ∧ Gr w w' := by
  obtain ⟨d, hd, cd⟩ := k_codes c h0 h1
  go_enter Tryz.func3, Tryz.ntmps3
  go_upto_region 1 with fail
  have HA : AtA (((w.alloc (.cells #[.int .u64 (iv u.ma), .int .u64 u.dn, .int .u64 u.up, .int .u64 u.ls, .int .u64 u.mo, .int .u32 u.hf, .int .u32 u.tp] 25)).alloc (.cells #[.int .u64 (iv v.ma), .int .u64 v.dn, .int .u64 v.up, .int .u64 v.ls, .int .u64 v.mo, .int .u32 v.hf, .int .u32 v.tp] 25)).alloc (.cells #[.int .u64 (iv t.ma), .int .u64 t.dn, .int .u64 t.up, .int .u64 t.ls, .int .u64 t.mo, .int .u32 t.hf, .int .u32 t.tp] 25)) w.heap.size (av u) 25 := ((AtA.newb _ rfl _ _).alloc _).alloc _
  have HB : AtA (((w.alloc (.cells #[.int .u64 (iv u.ma), .int .u64 u.dn, .int .u64 u.up, .int .u64 u.ls, .int .u64 u.mo, .int .u32 u.hf, .int .u32 u.tp] 25)).alloc (.cells #[.int .u64 (iv v.ma), .int .u64 v.dn, .int .u64 v.up, .int .u64 v.ls, .int .u64 v.mo, .int .u32 v.hf, .int .u32 v.tp] 25)).alloc (.cells #[.int .u64 (iv t.ma), .int .u64 t.dn, .int .u64 t.up, .int .u64 t.ls, .int .u64 t.mo, .int .u32 t.hf, .int .u32 t.tp] 25)) (w.heap.size + 1) (av v) 25 := (AtA.newb _ (by simp) _ _).alloc _
  have HC : AtA (((w.alloc (.cells #[.int .u64 (iv u.ma), .int .u64 u.dn, .int .u64 u.up, .int .u64 u.ls, .int .u64 u.mo, .int .u32 u.hf, .int .u32 u.tp] 25)).alloc (.cells #[.int .u64 (iv v.ma), .int .u64 v.dn, .int .u64 v.up, .int .u64 v.ls, .int .u64 v.mo, .int .u32 v.hf, .int .u32 v.tp] 25)).alloc (.cells #[.int .u64 (iv t.ma), .int .u64 t.dn, .int .u64 t.up, .int .u64 t.ls, .int .u64 t.mo, .int .u32 t.hf, .int .u32 t.tp] 25)) (w.heap.size + 1 + 1) (av t) 25 := AtA.newb _ (by simp) _ _
  have HF : Gr w (((w.alloc (.cells #[.int .u64 (iv u.ma), .int .u64 u.dn, .int .u64 u.up, .int .u64 u.ls, .int .u64 u.mo, .int .u32 u.hf, .int .u32 u.tp] 25)).alloc (.cells #[.int .u64 (iv v.ma), .int .u64 v.dn, .int .u64 v.up, .int .u64 v.ls, .int .u64 v.mo, .int .u32 v.hf, .int .u32 v.tp] 25)).alloc (.cells #[.int .u64 (iv t.ma), .int .u64 t.dn, .int .u64 t.up, .int .u64 t.ls, .int .u64 t.mo, .int .u32 t.hf, .int .u32 t.tp] 25)) := Gr.alloc (Gr.alloc (Gr.alloc (Gr.refl w) _ _) _ _) _ _
  revert HA HB HC HF
  generalize (((w.alloc (.cells #[.int .u64 (iv u.ma), .int .u64 u.dn, .int .u64 u.up, .int .u64 u.ls, .int .u64 u.mo, .int .u32 u.hf, .int .u32 u.tp] 25)).alloc (.cells #[.int .u64 (iv v.ma), .int .u64 v.dn, .int .u64 v.up, .int .u64 v.ls, .int .u64 v.mo, .int .u32 v.hf, .int .u32 v.tp] 25)).alloc (.cells #[.int .u64 (iv t.ma), .int .u64 t.dn, .int .u64 t.up, .int .u64 t.ls, .int .u64 t.mo, .int .u32 t.hf, .int .u32 t.tp] 25)) = W0
  generalize w.heap.size + 1 + 1 = XC
  generalize w.heap.size + 1 = XB
  generalize w.heap.size = XA
  intro HA HB HC HF
  go_cut [15, 16] (fun c15 c16 wx => ∃ (p1_8 : Nat) (p1_9 : Nat) (B1_2 : Bd) (B1_6 : Bd), c15 = .pointer (some ⟨p1_8, 0, none⟩) ∧ c16 = .pointer (some ⟨p1_9, 0, none⟩) ∧ Good B1_2 ∧ Has B1_2 x ∧ Good B1_6 ∧ Has B1_6 y ∧ AtA wx p1_8 (bv (syncM B1_2)) 33 ∧ AtA wx p1_9 (bv (syncM B1_6)) 33 ∧ p1_8 ≠ p1_9 ∧ W0.heap.size ≤ p1_8 ∧ W0.heap.size ≤ p1_9 ∧ Gr W0 wx)
  case first =>
    rename_i J K2 hJ hK2
    refine wp_region_inv (by kernel_rfl) (fun L ac wx => ∃ (y29 y30 y31 y32 y33 y34 y35 y36 y15 y16 : Value) (B1_2 : Bd) (B1_6 : Bd) (p1_8 : Nat) (p1_9 : Nat), ac = ⟨(.int .u64 (iv x) :: .int .u64 (iv y) :: .agg (av u) :: .agg (av v) :: .agg (av t) :: .int .u8 c :: .bool wd :: undef :: undef :: .pointer (some ⟨XA, 0, none⟩) :: .pointer (some ⟨XB, 0, none⟩) :: .pointer (some ⟨XC, 0, none⟩) :: undef :: undef :: .bool false :: y15 :: y16 :: undef :: undef :: undef :: undef :: undef :: undef :: undef :: undef :: undef :: undef :: undef :: undef :: y29 :: y30 :: y31 :: y32 :: y33 :: y34 :: y35 :: y36 :: undef :: undef :: undef :: undef :: undef :: undef :: undef :: undef :: undef :: undef :: undef :: undef :: undef :: undef :: undef :: undef :: undef :: undef :: undef :: undef :: undef :: undef :: undef :: undef :: undef :: undef :: undef :: undef :: undef :: undef :: undef :: undef :: undef :: undef :: undef :: undef :: undef :: undef :: undef :: undef :: undef :: undef :: undef :: undef :: undef :: undef :: undef :: undef :: undef :: undef :: undef :: undef :: undef :: undef :: undef :: undef :: undef :: undef :: undef :: undef :: undef :: undef :: undef :: undef :: undef :: undef :: undef :: undef :: undef :: undef :: undef :: undef :: undef :: undef :: [] : List Value).toArray, []⟩ ∧ Gr W0 wx ∧ (L 0 = true → y29 = .agg (av u)) ∧ (L 1 = true → y30 = .int .u64 (iv x)) ∧ (L 2 = true → Good B1_2 ∧ Has B1_2 x ∧ y31 = .agg (bv B1_2)) ∧ (L 3 = true → L 2 = true ∧ y32 = .agg (bv (syncM B1_2))) ∧ (L 4 = true → y33 = .agg (av v)) ∧ (L 5 = true → y34 = .int .u64 (iv y)) ∧ (L 6 = true → Good B1_6 ∧ Has B1_6 y ∧ y35 = .agg (bv B1_6)) ∧ (L 7 = true → L 6 = true ∧ y36 = .agg (bv (syncM B1_6))) ∧ (L 8 = true → y15 = .pointer (some ⟨p1_8, 0, none⟩) ∧ W0.heap.size ≤ p1_8 ∧ AtA wx p1_8 (bv (sel (L 10) (syncM B1_2) zeroM)) 33) ∧ (L 9 = true → y16 = .pointer (some ⟨p1_9, 0, none⟩) ∧ W0.heap.size ≤ p1_9 ∧ AtA wx p1_9 (bv (sel (L 11) (syncM B1_6) zeroM)) 33) ∧ (L 10 = true → L 3 = true ∧ L 8 = true) ∧ (L 11 = true → L 7 = true ∧ L 9 = true) ∧ (L 8 = true → L 9 = true → p1_8 ≠ p1_9)) (by kernel_rfl) ?h0 ?step ?fin
    case h0 => exact ⟨undef, undef, undef, undef, undef, undef, undef, undef, undef, undef, zeroM, zeroM, 0, 0, rfl, Gr.drew (Gr.refl _), (fun h => by cases h), (fun h => by cases h), (fun h => by cases h), (fun h => by cases h), (fun h => by cases h), (fun h => by cases h), (fun h => by cases h), (fun h => by cases h), (fun h => by cases h), (fun h => by cases h), (fun h => by cases h), (fun h => by cases h), (fun h => by cases h)⟩
    case step =>
      refine allOps_cons 0 ?_ ?_
      · refine kF rfl ?_
        rintro L ac wx hL hd ⟨y29, y30, y31, y32, y33, y34, y35, y36, y15, y16, B1_2, B1_6, p1_8, p1_9, rfl, hG, f0, f1, f2, f3, f4, f5, f6, f7, f8, f9, f10, f11, g8_9⟩
        refine wp_loadA rfl rfl ((HA).gr hG) ?_
        exact ⟨.agg (av u), y30, y31, y32, y33, y34, y35, y36, y15, y16, B1_2, B1_6, p1_8, p1_9, rfl, hG, fun _ => rfl, f1, f2, f3, f4, f5, f6, f7, f8, f9, f10, f11, g8_9⟩
      refine allOps_cons 1 ?_ ?_
      · refine kF rfl ?_
        rintro L ac wx hL hd ⟨y29, y30, y31, y32, y33, y34, y35, y36, y15, y16, B1_2, B1_6, p1_8, p1_9, rfl, hG, f0, f1, f2, f3, f4, f5, f6, f7, f8, f9, f10, f11, g8_9⟩
        refine wM rfl rfl ?_
        exact ⟨y29, .int .u64 (iv x), y31, y32, y33, y34, y35, y36, y15, y16, B1_2, B1_6, p1_8, p1_9, rfl, hG, f0, fun _ => rfl, f2, f3, f4, f5, f6, f7, f8, f9, f10, f11, g8_9⟩
      refine allOps_cons 2 ?_ ?_
      · refine kF rfl ?_
        rintro L ac wx hL hd ⟨y29, y30, y31, y32, y33, y34, y35, y36, y15, y16, B1_2, B1_6, p1_8, p1_9, rfl, hG, f0, f1, f2, f3, f4, f5, f6, f7, f8, f9, f10, f11, g8_9⟩
        obtain ⟨e0, e1, -⟩ := hd
        have h0 := f0 (e0 rfl); subst h0
        have h1 := f1 (e1 rfl); subst h1
        have l3 : L 3 = false := by
          cases h : L 3 with
          | false => rfl
          | true => have := (f3 h).1; rw [hL] at this; cases this
        have l10 : L 10 = false := by
          cases h : L 10 with
          | false => rfl
          | true => have := (f10 h).1; rw [l3] at this; cases this
        refine wp_call2 rfl rfl rfl (by go_simp) ?_
        refine (k_of u hu x _).mono ?_
        rintro e w1 ⟨B, gB, kB, rfl, hg⟩
        refine ⟨_, rfl, ?_⟩
        exact ⟨_, _, _, y32, y33, y34, y35, y36, y15, y16, B, B1_6, p1_8, p1_9, rfl, hG.trans hg, fun _ => rfl, fun _ => rfl, fun _ => ⟨gB, kB, rfl⟩, (fun h => absurd (show L 3 = true from h) (by rw [l3]; decide)), f4, f5, f6, f7, fun h => let ⟨z1, z2, z3⟩ := f8 h; ⟨z1, z2, by rw [l10] at z3; rw [show upd L 2 10 = false from l10]; exact z3.gr hg⟩, fun h => let ⟨z1, z2, z3⟩ := f9 h; ⟨z1, z2, z3.gr hg⟩, (fun h => absurd (show L 10 = true from h) (by rw [l10]; decide)), f11, g8_9⟩
      refine allOps_cons 3 ?_ ?_
      · refine kF rfl ?_
        rintro L ac wx hL hd ⟨y29, y30, y31, y32, y33, y34, y35, y36, y15, y16, B1_2, B1_6, p1_8, p1_9, rfl, hG, f0, f1, f2, f3, f4, f5, f6, f7, f8, f9, f10, f11, g8_9⟩
        obtain ⟨e0, e1, -⟩ := hd
        obtain ⟨y2_0, y2_1, h2⟩ := f2 (e0 rfl); subst h2
        have l10 : L 10 = false := by
          cases h : L 10 with
          | false => rfl
          | true => have := (f10 h).1; rw [hL] at this; cases this
        refine wp_call1 rfl rfl (by go_simp) ?_
        refine (k_sync B1_2 _ y2_0).mono ?_
        rintro e w1 ⟨rfl, hg⟩
        refine ⟨_, rfl, ?_⟩
        exact ⟨y29, y30, _, _, y33, y34, y35, y36, y15, y16, B1_2, B1_6, p1_8, p1_9, rfl, hG.trans hg, f0, f1, fun _ => ⟨y2_0, y2_1, rfl⟩, fun _ => ⟨e0 rfl, rfl⟩, f4, f5, f6, f7, fun h => let ⟨z1, z2, z3⟩ := f8 h; ⟨z1, z2, by rw [l10] at z3; rw [show upd L 3 10 = false from l10]; exact z3.gr hg⟩, fun h => let ⟨z1, z2, z3⟩ := f9 h; ⟨z1, z2, z3.gr hg⟩, (fun h => absurd (show L 10 = true from h) (by rw [l10]; decide)), f11, g8_9⟩
      refine allOps_cons 4 ?_ ?_
      · refine kF rfl ?_
        rintro L ac wx hL hd ⟨y29, y30, y31, y32, y33, y34, y35, y36, y15, y16, B1_2, B1_6, p1_8, p1_9, rfl, hG, f0, f1, f2, f3, f4, f5, f6, f7, f8, f9, f10, f11, g8_9⟩
        refine wp_loadA rfl rfl ((HB).gr hG) ?_
        exact ⟨y29, y30, y31, y32, .agg (av v), y34, y35, y36, y15, y16, B1_2, B1_6, p1_8, p1_9, rfl, hG, f0, f1, f2, f3, fun _ => rfl, f5, f6, f7, f8, f9, f10, f11, g8_9⟩
      refine allOps_cons 5 ?_ ?_
      · refine kF rfl ?_
        rintro L ac wx hL hd ⟨y29, y30, y31, y32, y33, y34, y35, y36, y15, y16, B1_2, B1_6, p1_8, p1_9, rfl, hG, f0, f1, f2, f3, f4, f5, f6, f7, f8, f9, f10, f11, g8_9⟩
        refine wM rfl rfl ?_
        exact ⟨y29, y30, y31, y32, y33, .int .u64 (iv y), y35, y36, y15, y16, B1_2, B1_6, p1_8, p1_9, rfl, hG, f0, f1, f2, f3, f4, fun _ => rfl, f6, f7, f8, f9, f10, f11, g8_9⟩
      refine allOps_cons 6 ?_ ?_
      · refine kF rfl ?_
        rintro L ac wx hL hd ⟨y29, y30, y31, y32, y33, y34, y35, y36, y15, y16, B1_2, B1_6, p1_8, p1_9, rfl, hG, f0, f1, f2, f3, f4, f5, f6, f7, f8, f9, f10, f11, g8_9⟩
        obtain ⟨e0, e1, e2, -⟩ := hd
        have h4 := f4 (e0 rfl); subst h4
        have h5 := f5 (e1 rfl); subst h5
        have l7 : L 7 = false := by
          cases h : L 7 with
          | false => rfl
          | true => have := (f7 h).1; rw [hL] at this; cases this
        have l11 : L 11 = false := by
          cases h : L 11 with
          | false => rfl
          | true => have := (f11 h).1; rw [l7] at this; cases this
        refine wp_call2 rfl rfl rfl (by go_simp) ?_
        refine (k_of v hv y _).mono ?_
        rintro e w1 ⟨B, gB, kB, rfl, hg⟩
        refine ⟨_, rfl, ?_⟩
        exact ⟨y29, y30, y31, y32, _, _, _, y36, y15, y16, B1_2, B, p1_8, p1_9, rfl, hG.trans hg, f0, f1, f2, f3, fun _ => rfl, fun _ => rfl, fun _ => ⟨gB, kB, rfl⟩, (fun h => absurd (show L 7 = true from h) (by rw [l7]; decide)), fun h => let ⟨z1, z2, z3⟩ := f8 h; ⟨z1, z2, z3.gr hg⟩, fun h => let ⟨z1, z2, z3⟩ := f9 h; ⟨z1, z2, by rw [l11] at z3; rw [show upd L 6 11 = false from l11]; exact z3.gr hg⟩, f10, (fun h => absurd (show L 11 = true from h) (by rw [l11]; decide)), g8_9⟩
      refine allOps_cons 7 ?_ ?_
      · refine kF rfl ?_
        rintro L ac wx hL hd ⟨y29, y30, y31, y32, y33, y34, y35, y36, y15, y16, B1_2, B1_6, p1_8, p1_9, rfl, hG, f0, f1, f2, f3, f4, f5, f6, f7, f8, f9, f10, f11, g8_9⟩
        obtain ⟨e0, e1, -⟩ := hd
        obtain ⟨y6_0, y6_1, h6⟩ := f6 (e0 rfl); subst h6
        have l11 : L 11 = false := by
          cases h : L 11 with
          | false => rfl
          | true => have := (f11 h).1; rw [hL] at this; cases this
        refine wp_call1 rfl rfl (by go_simp) ?_
        refine (k_sync B1_6 _ y6_0).mono ?_
        rintro e w1 ⟨rfl, hg⟩
        refine ⟨_, rfl, ?_⟩
        exact ⟨y29, y30, y31, y32, y33, y34, _, _, y15, y16, B1_2, B1_6, p1_8, p1_9, rfl, hG.trans hg, f0, f1, f2, f3, f4, f5, fun _ => ⟨y6_0, y6_1, rfl⟩, fun _ => ⟨e0 rfl, rfl⟩, fun h => let ⟨z1, z2, z3⟩ := f8 h; ⟨z1, z2, z3.gr hg⟩, fun h => let ⟨z1, z2, z3⟩ := f9 h; ⟨z1, z2, by rw [l11] at z3; rw [show upd L 7 11 = false from l11]; exact z3.gr hg⟩, f10, (fun h => absurd (show L 11 = true from h) (by rw [l11]; decide)), g8_9⟩
      refine allOps_cons 8 ?_ ?_
      · refine kF rfl ?_
        rintro L ac wx hL hd ⟨y29, y30, y31, y32, y33, y34, y35, y36, y15, y16, B1_2, B1_6, p1_8, p1_9, rfl, hG, f0, f1, f2, f3, f4, f5, f6, f7, f8, f9, f10, f11, g8_9⟩
        have l10 : L 10 = false := by
          cases h : L 10 with
          | false => rfl
          | true => have := (f10 h).2; rw [hL] at this; cases this
        refine wp_allocB rfl ?_
        intro w1 hn hg
        exact ⟨y29, y30, y31, y32, y33, y34, y35, y36, _, y16, B1_2, B1_6, wx.heap.size, p1_9, rfl, hG.trans hg, f0, f1, f2, f3, f4, f5, f6, f7, fun _ => ⟨rfl, hG.below.size, by rw [show upd L 8 10 = false from l10]; exact hn⟩, fun h => let ⟨z1, z2, z3⟩ := f9 h; ⟨z1, z2, z3.gr hg⟩, (fun h => absurd (show L 10 = true from h) (by rw [l10]; decide)), f11, fun _ h => by have z := (f9 h).2.2.lt; omega⟩
      refine allOps_cons 9 ?_ ?_
      · refine kF rfl ?_
        rintro L ac wx hL hd ⟨y29, y30, y31, y32, y33, y34, y35, y36, y15, y16, B1_2, B1_6, p1_8, p1_9, rfl, hG, f0, f1, f2, f3, f4, f5, f6, f7, f8, f9, f10, f11, g8_9⟩
        have l11 : L 11 = false := by
          cases h : L 11 with
          | false => rfl
          | true => have := (f11 h).2; rw [hL] at this; cases this
        refine wp_allocB rfl ?_
        intro w1 hn hg
        exact ⟨y29, y30, y31, y32, y33, y34, y35, y36, y15, _, B1_2, B1_6, p1_8, wx.heap.size, rfl, hG.trans hg, f0, f1, f2, f3, f4, f5, f6, f7, fun h => let ⟨z1, z2, z3⟩ := f8 h; ⟨z1, z2, z3.gr hg⟩, fun _ => ⟨rfl, hG.below.size, by rw [show upd L 9 11 = false from l11]; exact hn⟩, f10, (fun h => absurd (show L 11 = true from h) (by rw [l11]; decide)), fun h _ => by have z := (f8 h).2.2.lt; omega⟩
      refine allOps_cons 10 ?_ ?_
      · refine kF rfl ?_
        rintro L ac wx hL hd ⟨y29, y30, y31, y32, y33, y34, y35, y36, y15, y16, B1_2, B1_6, p1_8, p1_9, rfl, hG, f0, f1, f2, f3, f4, f5, f6, f7, f8, f9, f10, f11, g8_9⟩
        obtain ⟨e0, e1, e2, e3, e4, e5, e6, e7, e8, e9, e10, e11, e12, -⟩ := hd
        have lp : L 8 = true := e0 rfl
        have lx : L 3 = true := e1 rfl
        obtain ⟨h1, h2, h3⟩ := f8 lp
        obtain ⟨y0, h4⟩ := f3 lx
        rw [hL] at h3
        subst h1; subst h4
        refine wp_storeB rfl rfl rfl h3 ?_
        intro w1 hn hgx
        exact ⟨y29, y30, y31, _, y33, y34, y35, y36, _, y16, B1_2, B1_6, p1_8, p1_9, rfl, hgx.gr _ hG h2, f0, f1, f2, fun _ => ⟨y0, rfl⟩, f4, f5, f6, f7, fun _ => ⟨rfl, h2, hn⟩, fun h => let ⟨z1, z2, z3⟩ := f9 h; ⟨z1, z2, z3.grx hgx (Ne.symm (g8_9 lp h))⟩, fun _ => ⟨lx, lp⟩, f11, g8_9⟩
      refine allOps_cons 11 ?_ ?_
      · refine kF rfl ?_
        rintro L ac wx hL hd ⟨y29, y30, y31, y32, y33, y34, y35, y36, y15, y16, B1_2, B1_6, p1_8, p1_9, rfl, hG, f0, f1, f2, f3, f4, f5, f6, f7, f8, f9, f10, f11, g8_9⟩
        obtain ⟨e0, e1, e2, e3, e4, e5, e6, e7, e8, e9, e10, e11, e12, e13, -⟩ := hd
        have lp : L 9 = true := e0 rfl
        have lx : L 7 = true := e1 rfl
        obtain ⟨h1, h2, h3⟩ := f9 lp
        obtain ⟨y0, h4⟩ := f7 lx
        rw [hL] at h3
        subst h1; subst h4
        refine wp_storeB rfl rfl rfl h3 ?_
        intro w1 hn hgx
        exact ⟨y29, y30, y31, y32, y33, y34, y35, _, y15, _, B1_2, B1_6, p1_8, p1_9, rfl, hgx.gr _ hG h2, f0, f1, f2, f3, f4, f5, f6, fun _ => ⟨y0, rfl⟩, fun h => let ⟨z1, z2, z3⟩ := f8 h; ⟨z1, z2, z3.grx hgx (g8_9 h lp)⟩, fun _ => ⟨rfl, h2, hn⟩, f10, fun _ => ⟨lx, lp⟩, g8_9⟩
      exact allOps_nil 12
    case fin =>
      rintro L ac wx hall ⟨y29, y30, y31, y32, y33, y34, y35, y36, y15, y16, B1_2, B1_6, p1_8, p1_9, rfl, hG, f0, f1, f2, f3, f4, f5, f6, f7, f8, f9, f10, f11, g8_9⟩
      have l0 : L 0 = true := hall 0 (by decide)
      have l1 : L 1 = true := hall 1 (by decide)
      have l2 : L 2 = true := hall 2 (by decide)
      have l3 : L 3 = true := hall 3 (by decide)
      have l4 : L 4 = true := hall 4 (by decide)
      have l5 : L 5 = true := hall 5 (by decide)
      have l6 : L 6 = true := hall 6 (by decide)
      have l7 : L 7 = true := hall 7 (by decide)
      have l8 : L 8 = true := hall 8 (by decide)
      have l9 : L 9 = true := hall 9 (by decide)
      have l10 : L 10 = true := hall 10 (by decide)
      have l11 : L 11 = true := hall 11 (by decide)
      obtain ⟨h8, k8, z8⟩ := f8 l8; rw [l10] at z8
      obtain ⟨h9, k9, z9⟩ := f9 l9; rw [l11] at z9
      obtain ⟨y2_0, y2_1, -⟩ := f2 l2
      obtain ⟨y6_0, y6_1, -⟩ := f6 l6
      refine hK2 _ _ (hJ _ _ ?_)
      (repeat apply Exists.intro)
      refine ⟨?rel1, rfl⟩
      exact ⟨p1_8, p1_9, B1_2, B1_6, h8, h9, y2_0, y2_1, y6_0, y6_1, z8, z9, g8_9 l8 l9, k8, k9, hG⟩
  case rest =>
    obtain ⟨p1_8, p1_9, B1_2, B1_6, rfl, rfl, B1_2_0, B1_2_1, B1_6_0, B1_6_1, zp1_8, zp1_9, np1_8_p1_9, zp1_8ge, zp1_9ge, hc1⟩ := hcut
    have hXA_1 := (HA).gr hc1
    have hXB_1 := (HB).gr hc1
    have hXC_1 := (HC).gr hc1
    have hF_1 := (HF).trans hc1
    obtain ⟨kxA, -, kgA⟩ := sync_keep B1_2_0 B1_2_1
    obtain ⟨kyB, -, kgB⟩ := sync_keep B1_6_0 B1_6_1
    generalize syncM B1_2 = A at kxA kgA zp1_8
    generalize syncM B1_6 = B at kyB kgB zp1_9
    go_upto_region 2 with fail
    go_cut [17] (fun c17 wx => ∃ (p2_5 : Nat) (B2_3 : Bd), c17 = .pointer (some ⟨p2_5, 0, none⟩) ∧ Good B2_3 ∧ Has B2_3 x ∧ AtA wx p2_5 (bv (syncM (meetP A B2_3))) 33 ∧ wc.heap.size ≤ p2_5 ∧ Gr wc wx)
    case first =>
      rename_i J K2 hJ hK2
      refine wp_region_inv (by kernel_rfl) (fun L ac wx => ∃ (y37 y38 y39 y40 y41 y17 : Value) (B2_3 : Bd) (p2_5 : Nat), ac = ⟨(.int .u64 (iv x) :: .int .u64 (iv y) :: .agg (av u) :: .agg (av v) :: .agg (av t) :: .int .u8 c :: .bool wd :: undef :: undef :: .pointer (some ⟨XA, 0, none⟩) :: .pointer (some ⟨XB, 0, none⟩) :: .pointer (some ⟨XC, 0, none⟩) :: undef :: undef :: .bool false :: .pointer (some ⟨p1_8, 0, none⟩) :: .pointer (some ⟨p1_9, 0, none⟩) :: y17 :: undef :: undef :: undef :: u21 :: undef :: undef :: undef :: u25 :: undef :: undef :: undef :: u29 :: u30 :: u31 :: u32 :: u33 :: u34 :: u35 :: u36 :: y37 :: y38 :: y39 :: y40 :: y41 :: u42 :: u43 :: u44 :: u45 :: u46 :: u47 :: u48 :: u49 :: u50 :: u51 :: u52 :: u53 :: u54 :: u55 :: u56 :: u57 :: u58 :: u59 :: u60 :: u61 :: u62 :: u63 :: u64 :: u65 :: u66 :: u67 :: u68 :: u69 :: u70 :: u71 :: u72 :: u73 :: u74 :: u75 :: u76 :: u77 :: u78 :: u79 :: u80 :: u81 :: u82 :: u83 :: u84 :: u85 :: u86 :: u87 :: u88 :: u89 :: u90 :: u91 :: u92 :: u93 :: u94 :: u95 :: u96 :: u97 :: u98 :: u99 :: u100 :: u101 :: u102 :: u103 :: u104 :: u105 :: u106 :: u107 :: u108 :: u109 :: u110 :: [] : List Value).toArray, []⟩ ∧ Gr wc wx ∧ (L 0 = true → y37 = .agg (bv A)) ∧ (L 1 = true → y38 = .agg (av t)) ∧ (L 2 = true → y39 = .int .u64 (iv x)) ∧ (L 3 = true → Good B2_3 ∧ Has B2_3 x ∧ y40 = .agg (bv B2_3)) ∧ (L 4 = true → L 3 = true ∧ y41 = .agg (bv (syncM (meetP A B2_3)))) ∧ (L 5 = true → y17 = .pointer (some ⟨p2_5, 0, none⟩) ∧ wc.heap.size ≤ p2_5 ∧ AtA wx p2_5 (bv (sel (L 6) (syncM (meetP A B2_3)) zeroM)) 33) ∧ (L 6 = true → L 4 = true ∧ L 5 = true)) (by kernel_rfl) ?h0 ?step ?fin
      case h0 => exact ⟨u37, u38, u39, u40, u41, undef, zeroM, 0, rfl, Gr.drew (Gr.refl _), (fun h => by cases h), (fun h => by cases h), (fun h => by cases h), (fun h => by cases h), (fun h => by cases h), (fun h => by cases h), (fun h => by cases h)⟩
      case step =>
        refine allOps_cons 0 ?_ ?_
        · refine kF rfl ?_
          rintro L ac wx hL hd ⟨y37, y38, y39, y40, y41, y17, B2_3, p2_5, rfl, hG, f0, f1, f2, f3, f4, f5, f6⟩
          refine wp_loadB rfl rfl ((zp1_8).gr hG) ?_
          exact ⟨.agg (bv A), y38, y39, y40, y41, y17, B2_3, p2_5, rfl, hG, fun _ => rfl, f1, f2, f3, f4, f5, f6⟩
        refine allOps_cons 1 ?_ ?_
        · refine kF rfl ?_
          rintro L ac wx hL hd ⟨y37, y38, y39, y40, y41, y17, B2_3, p2_5, rfl, hG, f0, f1, f2, f3, f4, f5, f6⟩
          refine wp_loadA rfl rfl ((hXC_1).gr hG) ?_
          exact ⟨y37, .agg (av t), y39, y40, y41, y17, B2_3, p2_5, rfl, hG, f0, fun _ => rfl, f2, f3, f4, f5, f6⟩
        refine allOps_cons 2 ?_ ?_
        · refine kF rfl ?_
          rintro L ac wx hL hd ⟨y37, y38, y39, y40, y41, y17, B2_3, p2_5, rfl, hG, f0, f1, f2, f3, f4, f5, f6⟩
          refine wM rfl rfl ?_
          exact ⟨y37, y38, .int .u64 (iv x), y40, y41, y17, B2_3, p2_5, rfl, hG, f0, f1, fun _ => rfl, f3, f4, f5, f6⟩
        refine allOps_cons 3 ?_ ?_
        · refine kF rfl ?_
          rintro L ac wx hL hd ⟨y37, y38, y39, y40, y41, y17, B2_3, p2_5, rfl, hG, f0, f1, f2, f3, f4, f5, f6⟩
          obtain ⟨e0, e1, -⟩ := hd
          have h1 := f1 (e0 rfl); subst h1
          have h2 := f2 (e1 rfl); subst h2
          have l4 : L 4 = false := by
            cases h : L 4 with
            | false => rfl
            | true => have := (f4 h).1; rw [hL] at this; cases this
          have l6 : L 6 = false := by
            cases h : L 6 with
            | false => rfl
            | true => have := (f6 h).1; rw [l4] at this; cases this
          refine wp_call2 rfl rfl rfl (by go_simp) ?_
          refine (k_of t ht x _).mono ?_
          rintro e w1 ⟨B, gB, kB, rfl, hg⟩
          refine ⟨_, rfl, ?_⟩
          exact ⟨y37, _, _, _, y41, y17, B, p2_5, rfl, hG.trans hg, f0, fun _ => rfl, fun _ => rfl, fun _ => ⟨gB, kB, rfl⟩, (fun h => absurd (show L 4 = true from h) (by rw [l4]; decide)), fun h => let ⟨z1, z2, z3⟩ := f5 h; ⟨z1, z2, by rw [l6] at z3; rw [show upd L 3 6 = false from l6]; exact z3.gr hg⟩, (fun h => absurd (show L 6 = true from h) (by rw [l6]; decide))⟩
        refine allOps_cons 4 ?_ ?_
        · refine kF rfl ?_
          rintro L ac wx hL hd ⟨y37, y38, y39, y40, y41, y17, B2_3, p2_5, rfl, hG, f0, f1, f2, f3, f4, f5, f6⟩
          obtain ⟨e0, e1, e2, -⟩ := hd
          have h0 := f0 (e0 rfl); subst h0
          obtain ⟨y3_0, y3_1, h3⟩ := f3 (e1 rfl); subst h3
          have l6 : L 6 = false := by
            cases h : L 6 with
            | false => rfl
            | true => have := (f6 h).1; rw [hL] at this; cases this
          refine wp_call2 rfl rfl rfl (by go_simp) ?_
          refine (k_meet A B2_3 x _ kgA y3_0 kxA y3_1).mono ?_
          rintro e w1 ⟨rfl, hg⟩
          refine ⟨_, rfl, ?_⟩
          exact ⟨_, y38, y39, _, _, y17, B2_3, p2_5, rfl, hG.trans hg, fun _ => rfl, f1, f2, fun _ => ⟨y3_0, y3_1, rfl⟩, fun _ => ⟨e1 rfl, rfl⟩, fun h => let ⟨z1, z2, z3⟩ := f5 h; ⟨z1, z2, by rw [l6] at z3; rw [show upd L 4 6 = false from l6]; exact z3.gr hg⟩, (fun h => absurd (show L 6 = true from h) (by rw [l6]; decide))⟩
        refine allOps_cons 5 ?_ ?_
        · refine kF rfl ?_
          rintro L ac wx hL hd ⟨y37, y38, y39, y40, y41, y17, B2_3, p2_5, rfl, hG, f0, f1, f2, f3, f4, f5, f6⟩
          have l6 : L 6 = false := by
            cases h : L 6 with
            | false => rfl
            | true => have := (f6 h).2; rw [hL] at this; cases this
          refine wp_allocB rfl ?_
          intro w1 hn hg
          exact ⟨y37, y38, y39, y40, y41, _, B2_3, wx.heap.size, rfl, hG.trans hg, f0, f1, f2, f3, f4, fun _ => ⟨rfl, hG.below.size, by rw [show upd L 5 6 = false from l6]; exact hn⟩, (fun h => absurd (show L 6 = true from h) (by rw [l6]; decide))⟩
        refine allOps_cons 6 ?_ ?_
        · refine kF rfl ?_
          rintro L ac wx hL hd ⟨y37, y38, y39, y40, y41, y17, B2_3, p2_5, rfl, hG, f0, f1, f2, f3, f4, f5, f6⟩
          obtain ⟨e0, e1, e2, e3, e4, e5, e6, e7, e8, -⟩ := hd
          have lp : L 5 = true := e0 rfl
          have lx : L 4 = true := e1 rfl
          obtain ⟨h1, h2, h3⟩ := f5 lp
          obtain ⟨y0, h4⟩ := f4 lx
          rw [hL] at h3
          subst h1; subst h4
          refine wp_storeB rfl rfl rfl h3 ?_
          intro w1 hn hgx
          exact ⟨y37, y38, y39, y40, _, _, B2_3, p2_5, rfl, hgx.gr _ hG h2, f0, f1, f2, f3, fun _ => ⟨y0, rfl⟩, fun _ => ⟨rfl, h2, hn⟩, fun _ => ⟨lx, lp⟩⟩
        exact allOps_nil 7
      case fin =>
        rintro L ac wx hall ⟨y37, y38, y39, y40, y41, y17, B2_3, p2_5, rfl, hG, f0, f1, f2, f3, f4, f5, f6⟩
        have l0 : L 0 = true := hall 0 (by decide)
        have l1 : L 1 = true := hall 1 (by decide)
        have l2 : L 2 = true := hall 2 (by decide)
        have l3 : L 3 = true := hall 3 (by decide)
        have l4 : L 4 = true := hall 4 (by decide)
        have l5 : L 5 = true := hall 5 (by decide)
        have l6 : L 6 = true := hall 6 (by decide)
        obtain ⟨h5, k5, z5⟩ := f5 l5; rw [l6] at z5
        obtain ⟨y3_0, y3_1, -⟩ := f3 l3
        refine hK2 _ _ (hJ _ _ ?_)
        (repeat apply Exists.intro)
        refine ⟨?rel2, rfl⟩
        exact ⟨p2_5, B2_3, h5, y3_0, y3_1, z5, k5, hG⟩
    case rest =>
      obtain ⟨p2_5, B2_3, rfl, B2_3_0, B2_3_1, zp2_5, zp2_5ge, hc2⟩ := hcut
      have hXC_2 := (hXC_1).gr hc2
      have hp1_8_2 := (zp1_8).gr hc2
      have hp1_9_2 := (zp1_9).gr hc2
      have hF_2 := (hF_1).trans hc2
      obtain ⟨kxM, -, -, kgM⟩ := meet_keep kgA B2_3_0 kxA B2_3_1
      generalize syncM (meetP A B2_3) = M at kxM kgM zp2_5
      have hGL := GrL.of (S := []) (hF_2)
      obtain ⟨so, hs⟩ : ∃ so, Wd.asksV wd d (iv x) (iv y) = so := ⟨_, rfl⟩
      have cA := fun w => (Wd.asks_any wd d (iv x) (iv y) (codeM_nn hd) (iv_in x) (iv_in y) w).mono fun e w' h => (⟨h.1, gw_of h.2⟩ : _ ∧ Gr w w')
      rw [errA_code hd, hs] at cA
      obtain ⟨P1, P2, eP, hP1, -, -, -, gP1, -⟩ := ref_keeps kgA kgB (tell_keeps hd kgA kgB kxA kyB hs)
      obtain ⟨Q1, Q2, eQ, hQ1, -, lQ1, -, gQ1, -⟩ := ref_keeps kgM kgB (tell_keeps hd kgM kgB kxM kyB hs)
      have cP : ∀ w, Calls Tryz.prog 10 #[.int .u8 d, .bool wd, .bool so, .agg (bv A), .agg (bv B)] w fun e w' => e = .returned (.tuple #[.agg (bv P1), .agg (bv P2), .bool true, .int .i64 0]) ∧ Gr w w' := fun w => by
        have z := k_ref (wd := wd) (so := so) hd kgA kgB w
        rw [eP] at z
        exact z
      have cQ : ∀ w, Calls Tryz.prog 10 #[.int .u8 d, .bool wd, .bool so, .agg (bv M), .agg (bv B)] w fun e w' => e = .returned (.tuple #[.agg (bv Q1), .agg (bv Q2), .bool true, .int .i64 0]) ∧ Gr w w' := fun w => by
        have z := k_ref (wd := wd) (so := so) hd kgM kgB w
        rw [eQ] at z
        exact z
      have cB := fun w => k_meet P1 M x w gP1 kgM hP1 kxM
      obtain ⟨kxB, -, -, -⟩ := meet_keep gP1 kgM hP1 kxM
      generalize syncM (meetP P1 M) = BB at cB kxB
      have cHq := fun w => k_has Q1 x w
      rw [(hasM_iff _ _).2 hQ1] at cHq
      have cHb := fun w => k_has BB x w
      rw [(hasM_iff _ _).2 kxB] at cHb
      have cI := fun w => k_in Q1 M w
      rw [inM_of gQ1 lQ1] at cI
      go_upto_region 3 with fail
      refine rG ?_
      refine sF rfl ?_
      refine wM (v := .int .u8 c) rfl rfl ?_
      simp only [Act.put, zs, z0, z1]
      refine sF rfl ?_
      refine wp_call1 rfl rfl (by go_simp) ?_
      refine ((cd) _).mono ?_
      rintro e wk13 ⟨rfl, hk13⟩
      refine ⟨_, rfl, ?_⟩
      have hp1_8_13 := (hp1_8_2).gr hk13
      have hp1_9_13 := (hp1_9_2).gr hk13
      have hp2_5_13 := (zp2_5).gr hk13
      have hF_13 := (hGL).then hk13
      simp only [Act.put, zs, z0, z1]
      refine sF rfl ?_
      refine wA (v := .int .u8 d) rfl rfl ?_
      simp only [Act.put, zs, z0, z1]
      refine s_end ?_
      go_upto_region 4 with fail
      refine rG ?_
      refine sF rfl ?_
      refine wM (v := .int .u8 d) rfl rfl ?_
      simp only [Act.put, zs, z0, z1]
      refine sF rfl ?_
      refine wM (v := .bool wd) rfl rfl ?_
      simp only [Act.put, zs, z0, z1]
      refine sF rfl ?_
      refine wM (v := .int .u64 (iv x)) rfl rfl ?_
      simp only [Act.put, zs, z0, z1]
      refine sF rfl ?_
      refine wM (v := .int .u64 (iv y)) rfl rfl ?_
      simp only [Act.put, zs, z0, z1]
      refine sF rfl ?_
      refine wp_call4 rfl rfl rfl rfl rfl (by go_simp) ?_
      refine ((cA) _).mono ?_
      rintro e wk14 ⟨rfl, hk14⟩
      refine ⟨_, rfl, ?_⟩
      have hp1_8_14 := (hp1_8_13).gr hk14
      have hp1_9_14 := (hp1_9_13).gr hk14
      have hp2_5_14 := (hp2_5_13).gr hk14
      have hF_14 := (hF_13).then hk14
      simp only [Act.put, zs, z0, z1]
      refine sF rfl ?_
      refine wM (v := .tuple #[.bool so, .int .i64 0]) rfl rfl ?_
      simp only [Act.put, zs, z0, z1]
      refine sF rfl ?_
      refine wp_extract (v := .bool so) rfl rfl rfl ?_
      simp only [Act.put, zs, z0, z1]
      refine sF rfl ?_
      refine wp_extract (v := .int .i64 0) rfl rfl rfl ?_
      simp only [Act.put, zs, z0, z1]
      refine sF rfl ?_
      refine wA (v := .bool so) rfl rfl ?_
      simp only [Act.put, zs, z0, z1]
      refine sF rfl ?_
      refine wA (v := .int .i64 0) rfl rfl ?_
      simp only [Act.put, zs, z0, z1]
      refine s_end ?_
      go_upto_region 5 with fail
      refine rG ?_
      refine sF rfl ?_
      refine wM (v := .int .u8 d) rfl rfl ?_
      simp only [Act.put, zs, z0, z1]
      refine sF rfl ?_
      refine wM (v := .bool wd) rfl rfl ?_
      simp only [Act.put, zs, z0, z1]
      refine sF rfl ?_
      refine wM (v := .bool so) rfl rfl ?_
      simp only [Act.put, zs, z0, z1]
      refine sF rfl ?_
      refine wp_loadB rfl rfl (hp1_8_14) ?_
      simp only [Act.put, zs, z0, z1]
      refine sF rfl ?_
      refine wp_loadB rfl rfl (hp1_9_14) ?_
      simp only [Act.put, zs, z0, z1]
      refine sF rfl ?_
      refine wp_call5 rfl rfl rfl rfl rfl rfl (by go_simp) ?_
      refine ((cP) _).mono ?_
      rintro e wk15 ⟨rfl, hk15⟩
      refine ⟨_, rfl, ?_⟩
      have hp1_8_15 := (hp1_8_14).gr hk15
      have hp1_9_15 := (hp1_9_14).gr hk15
      have hp2_5_15 := (hp2_5_14).gr hk15
      have hF_15 := (hF_14).then hk15
      simp only [Act.put, zs, z0, z1]
      refine sF rfl ?_
      refine wM (v := .tuple #[.agg (bv P1), .agg (bv P2), .bool true, .int .i64 0]) rfl rfl ?_
      simp only [Act.put, zs, z0, z1]
      refine sF rfl ?_
      refine wp_extract (v := .agg (bv P1)) rfl rfl rfl ?_
      simp only [Act.put, zs, z0, z1]
      refine sF rfl ?_
      refine wp_extract (v := .agg (bv P2)) rfl rfl rfl ?_
      simp only [Act.put, zs, z0, z1]
      refine sF rfl ?_
      refine wp_extract (v := .bool true) rfl rfl rfl ?_
      simp only [Act.put, zs, z0, z1]
      refine sF rfl ?_
      refine wp_extract (v := .int .i64 0) rfl rfl rfl ?_
      simp only [Act.put, zs, z0, z1]
      refine sF rfl ?_
      refine wp_allocB rfl ?_
      intro ws16 hn16 hg16
      obtain ⟨PN16, hb16⟩ : ∃ b, wk15.heap.size = b := ⟨_, rfl⟩
      rw [hb16] at hn16 ⊢
      have hge16 := Nat.le_trans (hF_15).size (Nat.le_of_eq hb16)
      have hnep1_8_PN16 : p1_8 ≠ PN16 := Nat.ne_of_lt (Nat.lt_of_lt_of_le (hp1_8_15).lt (Nat.le_of_eq hb16))
      have hnep1_9_PN16 : p1_9 ≠ PN16 := Nat.ne_of_lt (Nat.lt_of_lt_of_le (hp1_9_15).lt (Nat.le_of_eq hb16))
      have hnep2_5_PN16 : p2_5 ≠ PN16 := Nat.ne_of_lt (Nat.lt_of_lt_of_le (hp2_5_15).lt (Nat.le_of_eq hb16))
      have hp1_8_16 := (hp1_8_15).gr hg16
      have hp1_9_16 := (hp1_9_15).gr hg16
      have hp2_5_16 := (hp2_5_15).gr hg16
      have hF_16 := (hF_15).then hg16
      simp only [Act.put, zs, z0, z1]
      refine sF rfl ?_
      refine wp_allocB rfl ?_
      intro ws17 hn17 hg17
      obtain ⟨PN17, hb17⟩ : ∃ b, ws16.heap.size = b := ⟨_, rfl⟩
      rw [hb17] at hn17 ⊢
      have hge17 := Nat.le_trans (hF_16).size (Nat.le_of_eq hb17)
      have hnep1_8_PN17 : p1_8 ≠ PN17 := Nat.ne_of_lt (Nat.lt_of_lt_of_le (hp1_8_16).lt (Nat.le_of_eq hb17))
      have hnep1_9_PN17 : p1_9 ≠ PN17 := Nat.ne_of_lt (Nat.lt_of_lt_of_le (hp1_9_16).lt (Nat.le_of_eq hb17))
      have hnep2_5_PN17 : p2_5 ≠ PN17 := Nat.ne_of_lt (Nat.lt_of_lt_of_le (hp2_5_16).lt (Nat.le_of_eq hb17))
      have hnePN16_PN17 : PN16 ≠ PN17 := Nat.ne_of_lt (Nat.lt_of_lt_of_le (hn16).lt (Nat.le_of_eq hb17))
      have hp1_8_17 := (hp1_8_16).gr hg17
      have hp1_9_17 := (hp1_9_16).gr hg17
      have hp2_5_17 := (hp2_5_16).gr hg17
      have hPN16_17 := (hn16).gr hg17
      have hF_17 := (hF_16).then hg17
      simp only [Act.put, zs, z0, z1]
      refine sF rfl ?_
      refine wp_storeB rfl rfl rfl (hPN16_17) ?_
      intro ws18 hs18 gx18
      have hp1_8_18 := (hp1_8_17).grx gx18 hnep1_8_PN16
      have hp1_9_18 := (hp1_9_17).grx gx18 hnep1_9_PN16
      have hp2_5_18 := (hp2_5_17).grx gx18 hnep2_5_PN16
      have hPN17_18 := (hn17).grx gx18 (Ne.symm hnePN16_PN17)
      have hF_18 := (hF_17).thenx gx18 (.inr hge16)
      change AtA ws18 PN16 (bv P1) 33 at hs18
      simp only [Act.put, zs, z0, z1]
      refine sF rfl ?_
      refine wp_storeB rfl rfl rfl (hPN17_18) ?_
      intro ws19 hs19 gx19
      have hp1_8_19 := (hp1_8_18).grx gx19 hnep1_8_PN17
      have hp1_9_19 := (hp1_9_18).grx gx19 hnep1_9_PN17
      have hp2_5_19 := (hp2_5_18).grx gx19 hnep2_5_PN17
      have hPN16_19 := (hs18).grx gx19 hnePN16_PN17
      have hF_19 := (hF_18).thenx gx19 (.inr hge17)
      change AtA ws19 PN17 (bv P2) 33 at hs19
      simp only [Act.put, zs, z0, z1]
      refine sF rfl ?_
      refine wA (v := .bool true) rfl rfl ?_
      simp only [Act.put, zs, z0, z1]
      refine sF rfl ?_
      refine wA (v := .int .i64 0) rfl rfl ?_
      simp only [Act.put, zs, z0, z1]
      refine s_end ?_
      go_upto_region 6 with fail
      refine rG ?_
      refine sF rfl ?_
      refine wM (v := .int .u8 d) rfl rfl ?_
      simp only [Act.put, zs, z0, z1]
      refine sF rfl ?_
      refine wM (v := .bool wd) rfl rfl ?_
      simp only [Act.put, zs, z0, z1]
      refine sF rfl ?_
      refine wM (v := .bool so) rfl rfl ?_
      simp only [Act.put, zs, z0, z1]
      refine sF rfl ?_
      refine wp_loadB rfl rfl (hp2_5_19) ?_
      simp only [Act.put, zs, z0, z1]
      refine sF rfl ?_
      refine wp_loadB rfl rfl (hp1_9_19) ?_
      simp only [Act.put, zs, z0, z1]
      refine sF rfl ?_
      refine wp_call5 rfl rfl rfl rfl rfl rfl (by go_simp) ?_
      refine ((cQ) _).mono ?_
      rintro e wk20 ⟨rfl, hk20⟩
      refine ⟨_, rfl, ?_⟩
      have hp1_8_20 := (hp1_8_19).gr hk20
      have hp1_9_20 := (hp1_9_19).gr hk20
      have hp2_5_20 := (hp2_5_19).gr hk20
      have hPN16_20 := (hPN16_19).gr hk20
      have hPN17_20 := (hs19).gr hk20
      have hF_20 := (hF_19).then hk20
      simp only [Act.put, zs, z0, z1]
      refine sF rfl ?_
      refine wM (v := .tuple #[.agg (bv Q1), .agg (bv Q2), .bool true, .int .i64 0]) rfl rfl ?_
      simp only [Act.put, zs, z0, z1]
      refine sF rfl ?_
      refine wp_extract (v := .agg (bv Q1)) rfl rfl rfl ?_
      simp only [Act.put, zs, z0, z1]
      refine sF rfl ?_
      refine wp_extract (v := .agg (bv Q2)) rfl rfl rfl ?_
      simp only [Act.put, zs, z0, z1]
      refine sF rfl ?_
      refine wp_extract (v := .bool true) rfl rfl rfl ?_
      simp only [Act.put, zs, z0, z1]
      refine sF rfl ?_
      refine wp_extract (v := .int .i64 0) rfl rfl rfl ?_
      simp only [Act.put, zs, z0, z1]
      refine sF rfl ?_
      refine wp_allocB rfl ?_
      intro ws21 hn21 hg21
      obtain ⟨PN21, hb21⟩ : ∃ b, wk20.heap.size = b := ⟨_, rfl⟩
      rw [hb21] at hn21 ⊢
      have hge21 := Nat.le_trans (hF_20).size (Nat.le_of_eq hb21)
      have hnep1_8_PN21 : p1_8 ≠ PN21 := Nat.ne_of_lt (Nat.lt_of_lt_of_le (hp1_8_20).lt (Nat.le_of_eq hb21))
      have hnep1_9_PN21 : p1_9 ≠ PN21 := Nat.ne_of_lt (Nat.lt_of_lt_of_le (hp1_9_20).lt (Nat.le_of_eq hb21))
      have hnep2_5_PN21 : p2_5 ≠ PN21 := Nat.ne_of_lt (Nat.lt_of_lt_of_le (hp2_5_20).lt (Nat.le_of_eq hb21))
      have hnePN16_PN21 : PN16 ≠ PN21 := Nat.ne_of_lt (Nat.lt_of_lt_of_le (hPN16_20).lt (Nat.le_of_eq hb21))
      have hnePN17_PN21 : PN17 ≠ PN21 := Nat.ne_of_lt (Nat.lt_of_lt_of_le (hPN17_20).lt (Nat.le_of_eq hb21))
      have hp1_8_21 := (hp1_8_20).gr hg21
      have hp1_9_21 := (hp1_9_20).gr hg21
      have hp2_5_21 := (hp2_5_20).gr hg21
      have hPN16_21 := (hPN16_20).gr hg21
      have hPN17_21 := (hPN17_20).gr hg21
      have hF_21 := (hF_20).then hg21
      simp only [Act.put, zs, z0, z1]
      refine sF rfl ?_
      refine wp_allocB rfl ?_
      intro ws22 hn22 hg22
      obtain ⟨PN22, hb22⟩ : ∃ b, ws21.heap.size = b := ⟨_, rfl⟩
      rw [hb22] at hn22 ⊢
      have hge22 := Nat.le_trans (hF_21).size (Nat.le_of_eq hb22)
      have hnep1_8_PN22 : p1_8 ≠ PN22 := Nat.ne_of_lt (Nat.lt_of_lt_of_le (hp1_8_21).lt (Nat.le_of_eq hb22))
      have hnep1_9_PN22 : p1_9 ≠ PN22 := Nat.ne_of_lt (Nat.lt_of_lt_of_le (hp1_9_21).lt (Nat.le_of_eq hb22))
      have hnep2_5_PN22 : p2_5 ≠ PN22 := Nat.ne_of_lt (Nat.lt_of_lt_of_le (hp2_5_21).lt (Nat.le_of_eq hb22))
      have hnePN16_PN22 : PN16 ≠ PN22 := Nat.ne_of_lt (Nat.lt_of_lt_of_le (hPN16_21).lt (Nat.le_of_eq hb22))
      have hnePN17_PN22 : PN17 ≠ PN22 := Nat.ne_of_lt (Nat.lt_of_lt_of_le (hPN17_21).lt (Nat.le_of_eq hb22))
      have hnePN21_PN22 : PN21 ≠ PN22 := Nat.ne_of_lt (Nat.lt_of_lt_of_le (hn21).lt (Nat.le_of_eq hb22))
      have hp1_8_22 := (hp1_8_21).gr hg22
      have hp1_9_22 := (hp1_9_21).gr hg22
      have hp2_5_22 := (hp2_5_21).gr hg22
      have hPN16_22 := (hPN16_21).gr hg22
      have hPN17_22 := (hPN17_21).gr hg22
      have hPN21_22 := (hn21).gr hg22
      have hF_22 := (hF_21).then hg22
      simp only [Act.put, zs, z0, z1]
      refine sF rfl ?_
      refine wp_storeB rfl rfl rfl (hPN21_22) ?_
      intro ws23 hs23 gx23
      have hp1_8_23 := (hp1_8_22).grx gx23 hnep1_8_PN21
      have hp1_9_23 := (hp1_9_22).grx gx23 hnep1_9_PN21
      have hp2_5_23 := (hp2_5_22).grx gx23 hnep2_5_PN21
      have hPN16_23 := (hPN16_22).grx gx23 hnePN16_PN21
      have hPN17_23 := (hPN17_22).grx gx23 hnePN17_PN21
      have hPN22_23 := (hn22).grx gx23 (Ne.symm hnePN21_PN22)
      have hF_23 := (hF_22).thenx gx23 (.inr hge21)
      change AtA ws23 PN21 (bv Q1) 33 at hs23
      simp only [Act.put, zs, z0, z1]
      refine sF rfl ?_
      refine wp_storeB rfl rfl rfl (hPN22_23) ?_
      intro ws24 hs24 gx24
      have hp1_8_24 := (hp1_8_23).grx gx24 hnep1_8_PN22
      have hp1_9_24 := (hp1_9_23).grx gx24 hnep1_9_PN22
      have hp2_5_24 := (hp2_5_23).grx gx24 hnep2_5_PN22
      have hPN16_24 := (hPN16_23).grx gx24 hnePN16_PN22
      have hPN17_24 := (hPN17_23).grx gx24 hnePN17_PN22
      have hPN21_24 := (hs23).grx gx24 hnePN21_PN22
      have hF_24 := (hF_23).thenx gx24 (.inr hge22)
      change AtA ws24 PN22 (bv Q2) 33 at hs24
      simp only [Act.put, zs, z0, z1]
      refine sF rfl ?_
      refine wA (v := .bool true) rfl rfl ?_
      simp only [Act.put, zs, z0, z1]
      refine sF rfl ?_
      refine wA (v := .int .i64 0) rfl rfl ?_
      simp only [Act.put, zs, z0, z1]
      refine s_end ?_
      go_upto_region 7 with fail
      refine rG ?_
      refine sF rfl ?_
      refine wp_loadB rfl rfl (hPN16_24) ?_
      simp only [Act.put, zs, z0, z1]
      refine sF rfl ?_
      refine wp_loadB rfl rfl (hp2_5_24) ?_
      simp only [Act.put, zs, z0, z1]
      refine sF rfl ?_
      refine wp_call2 rfl rfl rfl (by go_simp) ?_
      refine ((cB) _).mono ?_
      rintro e wk25 ⟨rfl, hk25⟩
      refine ⟨_, rfl, ?_⟩
      have hp1_8_25 := (hp1_8_24).gr hk25
      have hp1_9_25 := (hp1_9_24).gr hk25
      have hp2_5_25 := (hp2_5_24).gr hk25
      have hPN16_25 := (hPN16_24).gr hk25
      have hPN17_25 := (hPN17_24).gr hk25
      have hPN21_25 := (hPN21_24).gr hk25
      have hPN22_25 := (hs24).gr hk25
      have hF_25 := (hF_24).then hk25
      simp only [Act.put, zs, z0, z1]
      refine sF rfl ?_
      refine wp_allocB rfl ?_
      intro ws26 hn26 hg26
      obtain ⟨PN26, hb26⟩ : ∃ b, wk25.heap.size = b := ⟨_, rfl⟩
      rw [hb26] at hn26 ⊢
      have hge26 := Nat.le_trans (hF_25).size (Nat.le_of_eq hb26)
      have hnep1_8_PN26 : p1_8 ≠ PN26 := Nat.ne_of_lt (Nat.lt_of_lt_of_le (hp1_8_25).lt (Nat.le_of_eq hb26))
      have hnep1_9_PN26 : p1_9 ≠ PN26 := Nat.ne_of_lt (Nat.lt_of_lt_of_le (hp1_9_25).lt (Nat.le_of_eq hb26))
      have hnep2_5_PN26 : p2_5 ≠ PN26 := Nat.ne_of_lt (Nat.lt_of_lt_of_le (hp2_5_25).lt (Nat.le_of_eq hb26))
      have hnePN16_PN26 : PN16 ≠ PN26 := Nat.ne_of_lt (Nat.lt_of_lt_of_le (hPN16_25).lt (Nat.le_of_eq hb26))
      have hnePN17_PN26 : PN17 ≠ PN26 := Nat.ne_of_lt (Nat.lt_of_lt_of_le (hPN17_25).lt (Nat.le_of_eq hb26))
      have hnePN21_PN26 : PN21 ≠ PN26 := Nat.ne_of_lt (Nat.lt_of_lt_of_le (hPN21_25).lt (Nat.le_of_eq hb26))
      have hnePN22_PN26 : PN22 ≠ PN26 := Nat.ne_of_lt (Nat.lt_of_lt_of_le (hPN22_25).lt (Nat.le_of_eq hb26))
      have hp1_8_26 := (hp1_8_25).gr hg26
      have hp1_9_26 := (hp1_9_25).gr hg26
      have hp2_5_26 := (hp2_5_25).gr hg26
      have hPN16_26 := (hPN16_25).gr hg26
      have hPN17_26 := (hPN17_25).gr hg26
      have hPN21_26 := (hPN21_25).gr hg26
      have hPN22_26 := (hPN22_25).gr hg26
      have hF_26 := (hF_25).then hg26
      simp only [Act.put, zs, z0, z1]
      refine sF rfl ?_
      refine wp_storeB rfl rfl rfl (hn26) ?_
      intro ws27 hs27 gx27
      have hp1_8_27 := (hp1_8_26).grx gx27 hnep1_8_PN26
      have hp1_9_27 := (hp1_9_26).grx gx27 hnep1_9_PN26
      have hp2_5_27 := (hp2_5_26).grx gx27 hnep2_5_PN26
      have hPN16_27 := (hPN16_26).grx gx27 hnePN16_PN26
      have hPN17_27 := (hPN17_26).grx gx27 hnePN17_PN26
      have hPN21_27 := (hPN21_26).grx gx27 hnePN21_PN26
      have hPN22_27 := (hPN22_26).grx gx27 hnePN22_PN26
      have hF_27 := (hF_26).thenx gx27 (.inr hge26)
      change AtA ws27 PN26 (bv BB) 33 at hs27
      simp only [Act.put, zs, z0, z1]
      refine s_end ?_
      go_upto_region 8 with fail
      refine rG ?_
      refine sF rfl ?_
      refine wM (v := .int .i64 0) rfl rfl ?_
      simp only [Act.put, zs, z0, z1]
      refine sF rfl ?_
      refine wp_eqK rfl rfl ?_
      simp only [Act.put, zs, z0, z1]
      refine sF rfl ?_
      refine wM (v := .bool true) rfl rfl ?_
      simp only [Act.put, zs, z0, z1]
      refine s_do (by rfl) ?_
      refine wM (v := .int .i64 0) rfl rfl ?_
      simp only [Act.put, zs, z0, z1]
      refine s_do (by rfl) ?_
      refine wp_eqK rfl rfl ?_
      simp only [Act.put, zs, z0, z1]
      refine sF rfl ?_
      refine wp_pickT (v := .bool true) rfl rfl rfl ?_
      simp only [Act.put, zs, z0, z1]
      refine sF rfl ?_
      refine wM (v := .bool true) rfl rfl ?_
      simp only [Act.put, zs, z0, z1]
      refine s_do (by rfl) ?_
      refine wM (v := .int .i64 0) rfl rfl ?_
      simp only [Act.put, zs, z0, z1]
      refine s_do (by rfl) ?_
      refine wp_eqK rfl rfl ?_
      simp only [Act.put, zs, z0, z1]
      refine sF rfl ?_
      refine wp_pickT (v := .bool true) rfl rfl rfl ?_
      simp only [Act.put, zs, z0, z1]
      refine sF rfl ?_
      refine wM (v := .bool true) rfl rfl ?_
      simp only [Act.put, zs, z0, z1]
      refine s_do (by rfl) ?_
      refine wM (v := .bool true) rfl rfl ?_
      simp only [Act.put, zs, z0, z1]
      refine sF rfl ?_
      refine wp_pickT (v := .bool true) rfl rfl rfl ?_
      simp only [Act.put, zs, z0, z1]
      refine sF rfl ?_
      refine wM (v := .bool true) rfl rfl ?_
      simp only [Act.put, zs, z0, z1]
      refine s_do (by rfl) ?_
      refine wM (v := .bool true) rfl rfl ?_
      simp only [Act.put, zs, z0, z1]
      refine sF rfl ?_
      refine wp_pickT (v := .bool true) rfl rfl rfl ?_
      simp only [Act.put, zs, z0, z1]
      refine sF rfl ?_
      refine wM (v := .bool true) rfl rfl ?_
      simp only [Act.put, zs, z0, z1]
      refine s_do (by rfl) ?_
      refine wp_loadB rfl rfl (hPN21_27) ?_
      simp only [Act.put, zs, z0, z1]
      refine s_do (by rfl) ?_
      refine wM (v := .int .u64 (iv x)) rfl rfl ?_
      simp only [Act.put, zs, z0, z1]
      refine s_do (by rfl) ?_
      refine wp_call2 rfl rfl rfl (by go_simp) ?_
      refine ((cHq) _).mono ?_
      rintro e wk28 ⟨rfl, hk28⟩
      refine ⟨_, rfl, ?_⟩
      have hp1_8_28 := (hp1_8_27).gr hk28
      have hp1_9_28 := (hp1_9_27).gr hk28
      have hp2_5_28 := (hp2_5_27).gr hk28
      have hPN16_28 := (hPN16_27).gr hk28
      have hPN17_28 := (hPN17_27).gr hk28
      have hPN21_28 := (hPN21_27).gr hk28
      have hPN22_28 := (hPN22_27).gr hk28
      have hPN26_28 := (hs27).gr hk28
      have hF_28 := (hF_27).then hk28
      simp only [Act.put, zs, z0, z1]
      refine sF rfl ?_
      refine wp_pickT (v := .bool true) rfl rfl rfl ?_
      simp only [Act.put, zs, z0, z1]
      refine sF rfl ?_
      refine wM (v := .bool true) rfl rfl ?_
      simp only [Act.put, zs, z0, z1]
      refine s_do (by rfl) ?_
      refine wp_loadB rfl rfl (hPN26_28) ?_
      simp only [Act.put, zs, z0, z1]
      refine s_do (by rfl) ?_
      refine wM (v := .int .u64 (iv x)) rfl rfl ?_
      simp only [Act.put, zs, z0, z1]
      refine s_do (by rfl) ?_
      refine wp_call2 rfl rfl rfl (by go_simp) ?_
      refine ((cHb) _).mono ?_
      rintro e wk29 ⟨rfl, hk29⟩
      refine ⟨_, rfl, ?_⟩
      have hp1_8_29 := (hp1_8_28).gr hk29
      have hp1_9_29 := (hp1_9_28).gr hk29
      have hp2_5_29 := (hp2_5_28).gr hk29
      have hPN16_29 := (hPN16_28).gr hk29
      have hPN17_29 := (hPN17_28).gr hk29
      have hPN21_29 := (hPN21_28).gr hk29
      have hPN22_29 := (hPN22_28).gr hk29
      have hPN26_29 := (hPN26_28).gr hk29
      have hF_29 := (hF_28).then hk29
      simp only [Act.put, zs, z0, z1]
      refine sF rfl ?_
      refine wp_pickT (v := .bool true) rfl rfl rfl ?_
      simp only [Act.put, zs, z0, z1]
      refine sF rfl ?_
      refine wM (v := .bool true) rfl rfl ?_
      simp only [Act.put, zs, z0, z1]
      refine s_do (by rfl) ?_
      refine wp_loadB rfl rfl (hPN21_29) ?_
      simp only [Act.put, zs, z0, z1]
      refine s_do (by rfl) ?_
      refine wp_loadB rfl rfl (hp2_5_29) ?_
      simp only [Act.put, zs, z0, z1]
      refine s_do (by rfl) ?_
      refine wp_call2 rfl rfl rfl (by go_simp) ?_
      refine ((cI) _).mono ?_
      rintro e wk30 ⟨rfl, hk30⟩
      refine ⟨_, rfl, ?_⟩
      have hp1_8_30 := (hp1_8_29).gr hk30
      have hp1_9_30 := (hp1_9_29).gr hk30
      have hp2_5_30 := (hp2_5_29).gr hk30
      have hPN16_30 := (hPN16_29).gr hk30
      have hPN17_30 := (hPN17_29).gr hk30
      have hPN21_30 := (hPN21_29).gr hk30
      have hPN22_30 := (hPN22_29).gr hk30
      have hPN26_30 := (hPN26_29).gr hk30
      have hF_30 := (hF_29).then hk30
      simp only [Act.put, zs, z0, z1]
      refine sF rfl ?_
      refine wp_pickT (v := .bool true) rfl rfl rfl ?_
      simp only [Act.put, zs, z0, z1]
      refine sF rfl ?_
      refine wM (v := .bool true) rfl rfl ?_
      simp only [Act.put, zs, z0, z1]
      refine s_do (by rfl) ?_
      refine wp_call0 rfl (by go_simp) ?_
      refine ((k_works) _).mono ?_
      rintro e wk31 ⟨rfl, hk31⟩
      refine ⟨_, rfl, ?_⟩
      have hp1_8_31 := (hp1_8_30).gr hk31
      have hp1_9_31 := (hp1_9_30).gr hk31
      have hp2_5_31 := (hp2_5_30).gr hk31
      have hPN16_31 := (hPN16_30).gr hk31
      have hPN17_31 := (hPN17_30).gr hk31
      have hPN21_31 := (hPN21_30).gr hk31
      have hPN22_31 := (hPN22_30).gr hk31
      have hPN26_31 := (hPN26_30).gr hk31
      have hF_31 := (hF_30).then hk31
      simp only [Act.put, zs, z0, z1]
      refine sF rfl ?_
      refine wp_pickT (v := .bool true) rfl rfl rfl ?_
      simp only [Act.put, zs, z0, z1]
      refine sF rfl ?_
      refine wA (v := .bool true) rfl rfl ?_
      simp only [Act.put, zs, z0, z1]
      refine s_end ?_
      go_wp2
      go_ret
      exact ⟨rfl, (hF_31).gr0⟩
end Go.Proofs.YtcbcijibgpaipabGreat
