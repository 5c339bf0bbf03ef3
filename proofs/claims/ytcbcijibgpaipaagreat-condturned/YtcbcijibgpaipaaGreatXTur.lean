/- Towards the statement CondTurned: its walk. -/
import Derived.Test.YtcbcijibgpaipaaGreatCTu
import Derived.Deep.DeepCutAuto
namespace Go.Proofs.YtcbcijibgpaipaaGreat
open Go.ChangeShapes Go.WideShapes Go.ChangeAt Go.RowKit
open Tn (iv)
set_option linter.unusedVariables false
set_option linter.unusedSimpArgs false
set_option maxRecDepth 20000

theorem wp_eqK {o : Oper} {a : Act} {w : World} {K : Act → World → Prop} {Q : Exit → Act → World → Prop} {x : Operand} (ho : o.op = .binOp .eql 44 x (.const (.int .i64 0)) 44) (hx : a.eval x = .int .i64 0) (hK : K (a.put o.dst (.bool true)) w) : o.wp Tryz.prog a w K Q := by
  obtain ⟨dst, op, ty, pos, after, guard⟩ := o
  subst ho
  unfold Oper.wp
  simp only [execOp, hx]
  go_simp
  exact hK
theorem wp_eqKS {o : Oper} {a : Act} {w : World} {K : Act → World → Prop} {Q : Exit → Act → World → Prop} {x y : Operand} {d : Bd} (ho : o.op = .binOp .eql 30 x y 30) (hx : a.eval x = .agg (bv d)) (hy : a.eval y = .agg (bv d)) (hK : K (a.put o.dst (.bool true)) w) : o.wp Tryz.prog a w K Q := by
  obtain ⟨dst, op, ty, pos, after, guard⟩ := o
  subst ho
  unfold Oper.wp
  simp only [execOp, hx, hy, bv]
  go_simp
  exact hK
theorem wp_eqKB_t {o : Oper} {a : Act} {w : World} {K : Act → World → Prop} {Q : Exit → Act → World → Prop} {x y : Operand} (ho : o.op = .binOp .eql 4 x y 4) (hx : a.eval x = .bool true) (hy : a.eval y = .bool true) (hK : K (a.put o.dst (.bool true)) w) : o.wp Tryz.prog a w K Q := by
  obtain ⟨dst, op, ty, pos, after, guard⟩ := o
  subst ho
  unfold Oper.wp
  simp only [execOp, hx, hy]
  go_simp
  exact hK
theorem wp_eqKB_f {o : Oper} {a : Act} {w : World} {K : Act → World → Prop} {Q : Exit → Act → World → Prop} {x y : Operand} (ho : o.op = .binOp .eql 4 x y 4) (hx : a.eval x = .bool false) (hy : a.eval y = .bool false) (hK : K (a.put o.dst (.bool true)) w) : o.wp Tryz.prog a w K Q := by
  obtain ⟨dst, op, ty, pos, after, guard⟩ := o
  subst ho
  unfold Oper.wp
  simp only [execOp, hx, hy]
  go_simp
  exact hK
theorem wp_neK {o : Oper} {a : Act} {w : World} {K : Act → World → Prop} {Q : Exit → Act → World → Prop} {x : Operand} (ho : o.op = .binOp .neq 44 x (.const (.int .i64 0)) 44) (hx : a.eval x = .int .i64 0) (hK : K (a.put o.dst (.bool false)) w) : o.wp Tryz.prog a w K Q := by
  obtain ⟨dst, op, ty, pos, after, guard⟩ := o
  subst ho
  unfold Oper.wp
  simp only [execOp, hx]
  go_simp
  exact hK
theorem wp_neKS {o : Oper} {a : Act} {w : World} {K : Act → World → Prop} {Q : Exit → Act → World → Prop} {x y : Operand} {d : Bd} (ho : o.op = .binOp .neq 30 x y 30) (hx : a.eval x = .agg (bv d)) (hy : a.eval y = .agg (bv d)) (hK : K (a.put o.dst (.bool false)) w) : o.wp Tryz.prog a w K Q := by
  obtain ⟨dst, op, ty, pos, after, guard⟩ := o
  subst ho
  unfold Oper.wp
  simp only [execOp, hx, hy, bv]
  go_simp
  exact hK
theorem wp_neKB_t {o : Oper} {a : Act} {w : World} {K : Act → World → Prop} {Q : Exit → Act → World → Prop} {x y : Operand} (ho : o.op = .binOp .neq 4 x y 4) (hx : a.eval x = .bool true) (hy : a.eval y = .bool true) (hK : K (a.put o.dst (.bool false)) w) : o.wp Tryz.prog a w K Q := by
  obtain ⟨dst, op, ty, pos, after, guard⟩ := o
  subst ho
  unfold Oper.wp
  simp only [execOp, hx, hy]
  go_simp
  exact hK
theorem wp_neKB_f {o : Oper} {a : Act} {w : World} {K : Act → World → Prop} {Q : Exit → Act → World → Prop} {x y : Operand} (ho : o.op = .binOp .neq 4 x y 4) (hx : a.eval x = .bool false) (hy : a.eval y = .bool false) (hK : K (a.put o.dst (.bool false)) w) : o.wp Tryz.prog a w K Q := by
  obtain ⟨dst, op, ty, pos, after, guard⟩ := o
  subst ho
  unfold Oper.wp
  simp only [execOp, hx, hy]
  go_simp
  exact hK
theorem wp_eq8 {o : Oper} {a : Act} {w : World} {K : Act → World → Prop} {Q : Exit → Act → World → Prop} {x : Operand} (ho : o.op = .binOp .eql 5 x (.const (.int .u8 0)) 5) (hx : a.eval x = .int .u8 0) (hK : K (a.put o.dst (.bool true)) w) : o.wp Tryz.prog a w K Q := by
  obtain ⟨dst, op, ty, pos, after, guard⟩ := o
  subst ho
  unfold Oper.wp
  simp only [execOp, hx]
  go_simp
  exact hK
theorem wp_notV {o : Oper} {a : Act} {w : World} {K : Act → World → Prop} {Q : Exit → Act → World → Prop} {x : Operand} {b : Bool} (ho : o.op = .unOp .not 4 x) (hx : a.eval x = .bool b) (hK : K (a.put o.dst (.bool (!b))) w) : o.wp Tryz.prog a w K Q := by
  obtain ⟨dst, op, ty, pos, after, guard⟩ := o
  subst ho
  unfold Oper.wp
  simp only [execOp, hx]
  go_simp
  exact hK
set_option maxHeartbeats 16000000 in
theorem turned_law (u v : Ab) (hu : AbOk u) (hv : AbOk v) (x y : BitVec 64) (c : Int) (h0 : 0 ≤ c) (h1 : c ≤ 255) (wd so : Bool) (w : World) : Calls Tryz.prog 8 #[.int .u64 (iv x), .int .u64 (iv y), .agg #[.int .u64 (iv u.ma), .int .u64 u.dn, .int .u64 u.up, .int .u64 u.ls, .int .u64 u.mo, .int .u32 u.hf, .int .u32 u.tp], .agg #[.int .u64 (iv v.ma), .int .u64 v.dn, .int .u64 v.up, .int .u64 v.ls, .int .u64 v.mo, .int .u32 v.hf, .int .u32 v.tp], .int .u8 c, .bool wd, .bool so] w fun e w' => e = .returned (.bool true) ∧ Gr w w' := by
  obtain ⟨d, hd, cd⟩ := k_codes c h0 h1
  go_enter Tryz.func8, Tryz.ntmps8
  go_upto_region 1 with fail
  have HA : AtA ((w.alloc (.cells #[.int .u64 (iv u.ma), .int .u64 u.dn, .int .u64 u.up, .int .u64 u.ls, .int .u64 u.mo, .int .u32 u.hf, .int .u32 u.tp] 43)).alloc (.cells #[.int .u64 (iv v.ma), .int .u64 v.dn, .int .u64 v.up, .int .u64 v.ls, .int .u64 v.mo, .int .u32 v.hf, .int .u32 v.tp] 43)) w.heap.size (av u) 43 := (AtA.newb _ rfl _ _).alloc _
  have HB : AtA ((w.alloc (.cells #[.int .u64 (iv u.ma), .int .u64 u.dn, .int .u64 u.up, .int .u64 u.ls, .int .u64 u.mo, .int .u32 u.hf, .int .u32 u.tp] 43)).alloc (.cells #[.int .u64 (iv v.ma), .int .u64 v.dn, .int .u64 v.up, .int .u64 v.ls, .int .u64 v.mo, .int .u32 v.hf, .int .u32 v.tp] 43)) (w.heap.size + 1) (av v) 43 := AtA.newb _ (by simp) _ _
  have HF : Gr w ((w.alloc (.cells #[.int .u64 (iv u.ma), .int .u64 u.dn, .int .u64 u.up, .int .u64 u.ls, .int .u64 u.mo, .int .u32 u.hf, .int .u32 u.tp] 43)).alloc (.cells #[.int .u64 (iv v.ma), .int .u64 v.dn, .int .u64 v.up, .int .u64 v.ls, .int .u64 v.mo, .int .u32 v.hf, .int .u32 v.tp] 43)) := Gr.alloc (Gr.alloc (Gr.refl w) _ _) _ _
  revert HA HB HF
  generalize ((w.alloc (.cells #[.int .u64 (iv u.ma), .int .u64 u.dn, .int .u64 u.up, .int .u64 u.ls, .int .u64 u.mo, .int .u32 u.hf, .int .u32 u.tp] 43)).alloc (.cells #[.int .u64 (iv v.ma), .int .u64 v.dn, .int .u64 v.up, .int .u64 v.ls, .int .u64 v.mo, .int .u32 v.hf, .int .u32 v.tp] 43)) = W0
  generalize w.heap.size + 1 = XB
  generalize w.heap.size = XA
  intro HA HB HF
  go_cut [15, 16] (fun c15 c16 wx => ∃ (p1_8 : Nat) (p1_9 : Nat) (B1_2 : Bd) (B1_6 : Bd), c15 = .pointer (some ⟨p1_8, 0, none⟩) ∧ c16 = .pointer (some ⟨p1_9, 0, none⟩) ∧ Good B1_2 ∧ Has B1_2 x ∧ Good B1_6 ∧ Has B1_6 y ∧ AtA wx p1_8 (bv (syncM B1_2)) 30 ∧ AtA wx p1_9 (bv (syncM B1_6)) 30 ∧ p1_8 ≠ p1_9 ∧ W0.heap.size ≤ p1_8 ∧ W0.heap.size ≤ p1_9 ∧ Gr W0 wx)
  case first =>
    rename_i J K2 hJ hK2
    refine wp_region_inv (by kernel_rfl) (fun L ac wx => ∃ (y33 y34 y35 y36 y37 y38 y39 y40 y15 y16 : Value) (B1_2 : Bd) (B1_6 : Bd) (p1_8 : Nat) (p1_9 : Nat), ac = ⟨(.int .u64 (iv x) :: .int .u64 (iv y) :: .agg (av u) :: .agg (av v) :: .int .u8 c :: .bool wd :: .bool so :: undef :: undef :: .pointer (some ⟨XA, 0, none⟩) :: .pointer (some ⟨XB, 0, none⟩) :: undef :: undef :: undef :: .bool false :: y15 :: y16 :: undef :: undef :: undef :: undef :: undef :: undef :: undef :: undef :: undef :: undef :: undef :: undef :: undef :: undef :: undef :: undef :: y33 :: y34 :: y35 :: y36 :: y37 :: y38 :: y39 :: y40 :: undef :: undef :: undef :: undef :: undef :: undef :: undef :: undef :: undef :: undef :: undef :: undef :: undef :: undef :: undef :: undef :: undef :: undef :: undef :: undef :: undef :: undef :: undef :: undef :: undef :: undef :: undef :: undef :: undef :: undef :: undef :: undef :: undef :: undef :: undef :: undef :: undef :: undef :: undef :: undef :: undef :: undef :: undef :: undef :: undef :: undef :: undef :: undef :: undef :: undef :: undef :: undef :: undef :: undef :: undef :: undef :: undef :: undef :: undef :: undef :: undef :: undef :: undef :: undef :: undef :: undef :: undef :: undef :: undef :: undef :: undef :: undef :: undef :: undef :: undef :: undef :: undef :: undef :: undef :: undef :: undef :: undef :: undef :: undef :: undef :: undef :: undef :: undef :: undef :: undef :: undef :: undef :: undef :: undef :: undef :: undef :: undef :: undef :: [] : List Value).toArray, []⟩ ∧ Gr W0 wx ∧ (L 0 = true → y33 = .agg (av u)) ∧ (L 1 = true → y34 = .int .u64 (iv x)) ∧ (L 2 = true → Good B1_2 ∧ Has B1_2 x ∧ y35 = .agg (bv B1_2)) ∧ (L 3 = true → L 2 = true ∧ y36 = .agg (bv (syncM B1_2))) ∧ (L 4 = true → y37 = .agg (av v)) ∧ (L 5 = true → y38 = .int .u64 (iv y)) ∧ (L 6 = true → Good B1_6 ∧ Has B1_6 y ∧ y39 = .agg (bv B1_6)) ∧ (L 7 = true → L 6 = true ∧ y40 = .agg (bv (syncM B1_6))) ∧ (L 8 = true → y15 = .pointer (some ⟨p1_8, 0, none⟩) ∧ W0.heap.size ≤ p1_8 ∧ AtA wx p1_8 (bv (sel (L 10) (syncM B1_2) zeroM)) 30) ∧ (L 9 = true → y16 = .pointer (some ⟨p1_9, 0, none⟩) ∧ W0.heap.size ≤ p1_9 ∧ AtA wx p1_9 (bv (sel (L 11) (syncM B1_6) zeroM)) 30) ∧ (L 10 = true → L 3 = true ∧ L 8 = true) ∧ (L 11 = true → L 7 = true ∧ L 9 = true) ∧ (L 8 = true → L 9 = true → p1_8 ≠ p1_9)) (by kernel_rfl) ?h0 ?step ?fin
    case h0 => exact ⟨undef, undef, undef, undef, undef, undef, undef, undef, undef, undef, zeroM, zeroM, 0, 0, rfl, Gr.drew (Gr.refl _), (fun h => by cases h), (fun h => by cases h), (fun h => by cases h), (fun h => by cases h), (fun h => by cases h), (fun h => by cases h), (fun h => by cases h), (fun h => by cases h), (fun h => by cases h), (fun h => by cases h), (fun h => by cases h), (fun h => by cases h), (fun h => by cases h)⟩
    case step =>
      refine allOps_cons 0 ?_ ?_
      · refine kF rfl ?_
        rintro L ac wx hL hd ⟨y33, y34, y35, y36, y37, y38, y39, y40, y15, y16, B1_2, B1_6, p1_8, p1_9, rfl, hG, f0, f1, f2, f3, f4, f5, f6, f7, f8, f9, f10, f11, g8_9⟩
        refine wp_loadA rfl rfl ((HA).gr hG) ?_
        exact ⟨.agg (av u), y34, y35, y36, y37, y38, y39, y40, y15, y16, B1_2, B1_6, p1_8, p1_9, rfl, hG, fun _ => rfl, f1, f2, f3, f4, f5, f6, f7, f8, f9, f10, f11, g8_9⟩
      refine allOps_cons 1 ?_ ?_
      · refine kF rfl ?_
        rintro L ac wx hL hd ⟨y33, y34, y35, y36, y37, y38, y39, y40, y15, y16, B1_2, B1_6, p1_8, p1_9, rfl, hG, f0, f1, f2, f3, f4, f5, f6, f7, f8, f9, f10, f11, g8_9⟩
        refine wM rfl rfl ?_
        exact ⟨y33, .int .u64 (iv x), y35, y36, y37, y38, y39, y40, y15, y16, B1_2, B1_6, p1_8, p1_9, rfl, hG, f0, fun _ => rfl, f2, f3, f4, f5, f6, f7, f8, f9, f10, f11, g8_9⟩
      refine allOps_cons 2 ?_ ?_
      · refine kF rfl ?_
        rintro L ac wx hL hd ⟨y33, y34, y35, y36, y37, y38, y39, y40, y15, y16, B1_2, B1_6, p1_8, p1_9, rfl, hG, f0, f1, f2, f3, f4, f5, f6, f7, f8, f9, f10, f11, g8_9⟩
        obtain ⟨e0, e1, -⟩ := hd
        have h0 := f0 (e0 rfl); subst h0
        have h1 := f1 (e1 rfl); subst h1
        have l3 : L 3 = false := by
          cases h : L 3 with
          | false => rfl
          | true => have := (f3 h).1; rw [hL] at this; cases this
        have l10 : L 10 = false := by
          cases h : L 10 with
          | false => rfl
          | true => have := (f10 h).1; rw [l3] at this; cases this
        refine wp_call2 rfl rfl rfl (by go_simp) ?_
        refine (k_of u hu x _).mono ?_
        rintro e w1 ⟨B, gB, kB, rfl, hg⟩
        refine ⟨_, rfl, ?_⟩
        exact ⟨_, _, _, y36, y37, y38, y39, y40, y15, y16, B, B1_6, p1_8, p1_9, rfl, hG.trans hg, fun _ => rfl, fun _ => rfl, fun _ => ⟨gB, kB, rfl⟩, (fun h => absurd (show L 3 = true from h) (by rw [l3]; decide)), f4, f5, f6, f7, fun h => let ⟨z1, z2, z3⟩ := f8 h; ⟨z1, z2, by rw [l10] at z3; rw [show upd L 2 10 = false from l10]; exact z3.gr hg⟩, fun h => let ⟨z1, z2, z3⟩ := f9 h; ⟨z1, z2, z3.gr hg⟩, (fun h => absurd (show L 10 = true from h) (by rw [l10]; decide)), f11, g8_9⟩
      refine allOps_cons 3 ?_ ?_
      · refine kF rfl ?_
        rintro L ac wx hL hd ⟨y33, y34, y35, y36, y37, y38, y39, y40, y15, y16, B1_2, B1_6, p1_8, p1_9, rfl, hG, f0, f1, f2, f3, f4, f5, f6, f7, f8, f9, f10, f11, g8_9⟩
        obtain ⟨e0, e1, -⟩ := hd
        obtain ⟨y2_0, y2_1, h2⟩ := f2 (e0 rfl); subst h2
        have l10 : L 10 = false := by
          cases h : L 10 with
          | false => rfl
          | true => have := (f10 h).1; rw [hL] at this; cases this
        refine wp_call1 rfl rfl (by go_simp) ?_
        refine (k_sync B1_2 _ y2_0).mono ?_
        rintro e w1 ⟨rfl, hg⟩
        refine ⟨_, rfl, ?_⟩
        exact ⟨y33, y34, _, _, y37, y38, y39, y40, y15, y16, B1_2, B1_6, p1_8, p1_9, rfl, hG.trans hg, f0, f1, fun _ => ⟨y2_0, y2_1, rfl⟩, fun _ => ⟨e0 rfl, rfl⟩, f4, f5, f6, f7, fun h => let ⟨z1, z2, z3⟩ := f8 h; ⟨z1, z2, by rw [l10] at z3; rw [show upd L 3 10 = false from l10]; exact z3.gr hg⟩, fun h => let ⟨z1, z2, z3⟩ := f9 h; ⟨z1, z2, z3.gr hg⟩, (fun h => absurd (show L 10 = true from h) (by rw [l10]; decide)), f11, g8_9⟩
      refine allOps_cons 4 ?_ ?_
      · refine kF rfl ?_
        rintro L ac wx hL hd ⟨y33, y34, y35, y36, y37, y38, y39, y40, y15, y16, B1_2, B1_6, p1_8, p1_9, rfl, hG, f0, f1, f2, f3, f4, f5, f6, f7, f8, f9, f10, f11, g8_9⟩
        refine wp_loadA rfl rfl ((HB).gr hG) ?_
        exact ⟨y33, y34, y35, y36, .agg (av v), y38, y39, y40, y15, y16, B1_2, B1_6, p1_8, p1_9, rfl, hG, f0, f1, f2, f3, fun _ => rfl, f5, f6, f7, f8, f9, f10, f11, g8_9⟩
      refine allOps_cons 5 ?_ ?_
      · refine kF rfl ?_
        rintro L ac wx hL hd ⟨y33, y34, y35, y36, y37, y38, y39, y40, y15, y16, B1_2, B1_6, p1_8, p1_9, rfl, hG, f0, f1, f2, f3, f4, f5, f6, f7, f8, f9, f10, f11, g8_9⟩
        refine wM rfl rfl ?_
        exact ⟨y33, y34, y35, y36, y37, .int .u64 (iv y), y39, y40, y15, y16, B1_2, B1_6, p1_8, p1_9, rfl, hG, f0, f1, f2, f3, f4, fun _ => rfl, f6, f7, f8, f9, f10, f11, g8_9⟩
      refine allOps_cons 6 ?_ ?_
      · refine kF rfl ?_
        rintro L ac wx hL hd ⟨y33, y34, y35, y36, y37, y38, y39, y40, y15, y16, B1_2, B1_6, p1_8, p1_9, rfl, hG, f0, f1, f2, f3, f4, f5, f6, f7, f8, f9, f10, f11, g8_9⟩
        obtain ⟨e0, e1, e2, -⟩ := hd
        have h4 := f4 (e0 rfl); subst h4
        have h5 := f5 (e1 rfl); subst h5
        have l7 : L 7 = false := by
          cases h : L 7 with
          | false => rfl
          | true => have := (f7 h).1; rw [hL] at this; cases this
        have l11 : L 11 = false := by
          cases h : L 11 with
          | false => rfl
          | true => have := (f11 h).1; rw [l7] at this; cases this
        refine wp_call2 rfl rfl rfl (by go_simp) ?_
        refine (k_of v hv y _).mono ?_
        rintro e w1 ⟨B, gB, kB, rfl, hg⟩
        refine ⟨_, rfl, ?_⟩
        exact ⟨y33, y34, y35, y36, _, _, _, y40, y15, y16, B1_2, B, p1_8, p1_9, rfl, hG.trans hg, f0, f1, f2, f3, fun _ => rfl, fun _ => rfl, fun _ => ⟨gB, kB, rfl⟩, (fun h => absurd (show L 7 = true from h) (by rw [l7]; decide)), fun h => let ⟨z1, z2, z3⟩ := f8 h; ⟨z1, z2, z3.gr hg⟩, fun h => let ⟨z1, z2, z3⟩ := f9 h; ⟨z1, z2, by rw [l11] at z3; rw [show upd L 6 11 = false from l11]; exact z3.gr hg⟩, f10, (fun h => absurd (show L 11 = true from h) (by rw [l11]; decide)), g8_9⟩
      refine allOps_cons 7 ?_ ?_
      · refine kF rfl ?_
        rintro L ac wx hL hd ⟨y33, y34, y35, y36, y37, y38, y39, y40, y15, y16, B1_2, B1_6, p1_8, p1_9, rfl, hG, f0, f1, f2, f3, f4, f5, f6, f7, f8, f9, f10, f11, g8_9⟩
        obtain ⟨e0, e1, -⟩ := hd
        obtain ⟨y6_0, y6_1, h6⟩ := f6 (e0 rfl); subst h6
        have l11 : L 11 = false := by
          cases h : L 11 with
          | false => rfl
          | true => have := (f11 h).1; rw [hL] at this; cases this
        refine wp_call1 rfl rfl (by go_simp) ?_
        refine (k_sync B1_6 _ y6_0).mono ?_
        rintro e w1 ⟨rfl, hg⟩
        refine ⟨_, rfl, ?_⟩
        exact ⟨y33, y34, y35, y36, y37, y38, _, _, y15, y16, B1_2, B1_6, p1_8, p1_9, rfl, hG.trans hg, f0, f1, f2, f3, f4, f5, fun _ => ⟨y6_0, y6_1, rfl⟩, fun _ => ⟨e0 rfl, rfl⟩, fun h => let ⟨z1, z2, z3⟩ := f8 h; ⟨z1, z2, z3.gr hg⟩, fun h => let ⟨z1, z2, z3⟩ := f9 h; ⟨z1, z2, by rw [l11] at z3; rw [show upd L 7 11 = false from l11]; exact z3.gr hg⟩, f10, (fun h => absurd (show L 11 = true from h) (by rw [l11]; decide)), g8_9⟩
      refine allOps_cons 8 ?_ ?_
      · refine kF rfl ?_
        rintro L ac wx hL hd ⟨y33, y34, y35, y36, y37, y38, y39, y40, y15, y16, B1_2, B1_6, p1_8, p1_9, rfl, hG, f0, f1, f2, f3, f4, f5, f6, f7, f8, f9, f10, f11, g8_9⟩
        have l10 : L 10 = false := by
          cases h : L 10 with
          | false => rfl
          | true => have := (f10 h).2; rw [hL] at this; cases this
        refine wp_allocB rfl ?_
        intro w1 hn hg
        exact ⟨y33, y34, y35, y36, y37, y38, y39, y40, _, y16, B1_2, B1_6, wx.heap.size, p1_9, rfl, hG.trans hg, f0, f1, f2, f3, f4, f5, f6, f7, fun _ => ⟨rfl, hG.below.size, by rw [show upd L 8 10 = false from l10]; exact hn⟩, fun h => let ⟨z1, z2, z3⟩ := f9 h; ⟨z1, z2, z3.gr hg⟩, (fun h => absurd (show L 10 = true from h) (by rw [l10]; decide)), f11, fun _ h => by have z := (f9 h).2.2.lt; omega⟩
      refine allOps_cons 9 ?_ ?_
      · refine kF rfl ?_
        rintro L ac wx hL hd ⟨y33, y34, y35, y36, y37, y38, y39, y40, y15, y16, B1_2, B1_6, p1_8, p1_9, rfl, hG, f0, f1, f2, f3, f4, f5, f6, f7, f8, f9, f10, f11, g8_9⟩
        have l11 : L 11 = false := by
          cases h : L 11 with
          | false => rfl
          | true => have := (f11 h).2; rw [hL] at this; cases this
        refine wp_allocB rfl ?_
        intro w1 hn hg
        exact ⟨y33, y34, y35, y36, y37, y38, y39, y40, y15, _, B1_2, B1_6, p1_8, wx.heap.size, rfl, hG.trans hg, f0, f1, f2, f3, f4, f5, f6, f7, fun h => let ⟨z1, z2, z3⟩ := f8 h; ⟨z1, z2, z3.gr hg⟩, fun _ => ⟨rfl, hG.below.size, by rw [show upd L 9 11 = false from l11]; exact hn⟩, f10, (fun h => absurd (show L 11 = true from h) (by rw [l11]; decide)), fun h _ => by have z := (f8 h).2.2.lt; omega⟩
      refine allOps_cons 10 ?_ ?_
      · refine kF rfl ?_
        rintro L ac wx hL hd ⟨y33, y34, y35, y36, y37, y38, y39, y40, y15, y16, B1_2, B1_6, p1_8, p1_9, rfl, hG, f0, f1, f2, f3, f4, f5, f6, f7, f8, f9, f10, f11, g8_9⟩
        obtain ⟨e0, e1, e2, e3, e4, e5, e6, e7, e8, e9, e10, e11, e12, -⟩ := hd
        have lp : L 8 = true := e0 rfl
        have lx : L 3 = true := e1 rfl
        obtain ⟨h1, h2, h3⟩ := f8 lp
        obtain ⟨y0, h4⟩ := f3 lx
        rw [hL] at h3
        subst h1; subst h4
        refine wp_storeB rfl rfl rfl h3 ?_
        intro w1 hn hgx
        exact ⟨y33, y34, y35, _, y37, y38, y39, y40, _, y16, B1_2, B1_6, p1_8, p1_9, rfl, hgx.gr _ hG h2, f0, f1, f2, fun _ => ⟨y0, rfl⟩, f4, f5, f6, f7, fun _ => ⟨rfl, h2, hn⟩, fun h => let ⟨z1, z2, z3⟩ := f9 h; ⟨z1, z2, z3.grx hgx (Ne.symm (g8_9 lp h))⟩, fun _ => ⟨lx, lp⟩, f11, g8_9⟩
      refine allOps_cons 11 ?_ ?_
      · refine kF rfl ?_
        rintro L ac wx hL hd ⟨y33, y34, y35, y36, y37, y38, y39, y40, y15, y16, B1_2, B1_6, p1_8, p1_9, rfl, hG, f0, f1, f2, f3, f4, f5, f6, f7, f8, f9, f10, f11, g8_9⟩
        obtain ⟨e0, e1, e2, e3, e4, e5, e6, e7, e8, e9, e10, e11, e12, e13, -⟩ := hd
        have lp : L 9 = true := e0 rfl
        have lx : L 7 = true := e1 rfl
        obtain ⟨h1, h2, h3⟩ := f9 lp
        obtain ⟨y0, h4⟩ := f7 lx
        rw [hL] at h3
        subst h1; subst h4
        refine wp_storeB rfl rfl rfl h3 ?_
        intro w1 hn hgx
        exact ⟨y33, y34, y35, y36, y37, y38, y39, _, y15, _, B1_2, B1_6, p1_8, p1_9, rfl, hgx.gr _ hG h2, f0, f1, f2, f3, f4, f5, f6, fun _ => ⟨y0, rfl⟩, fun h => let ⟨z1, z2, z3⟩ := f8 h; ⟨z1, z2, z3.grx hgx (g8_9 h lp)⟩, fun _ => ⟨rfl, h2, hn⟩, f10, fun _ => ⟨lx, lp⟩, g8_9⟩
      exact allOps_nil 12
    case fin =>
      rintro L ac wx hall ⟨y33, y34, y35, y36, y37, y38, y39, y40, y15, y16, B1_2, B1_6, p1_8, p1_9, rfl, hG, f0, f1, f2, f3, f4, f5, f6, f7, f8, f9, f10, f11, g8_9⟩
      have l0 : L 0 = true := hall 0 (by decide)
      have l1 : L 1 = true := hall 1 (by decide)
      have l2 : L 2 = true := hall 2 (by decide)
      have l3 : L 3 = true := hall 3 (by decide)
      have l4 : L 4 = true := hall 4 (by decide)
      have l5 : L 5 = true := hall 5 (by decide)
      have l6 : L 6 = true := hall 6 (by decide)
      have l7 : L 7 = true := hall 7 (by decide)
      have l8 : L 8 = true := hall 8 (by decide)
      have l9 : L 9 = true := hall 9 (by decide)
      have l10 : L 10 = true := hall 10 (by decide)
      have l11 : L 11 = true := hall 11 (by decide)
      obtain ⟨h8, k8, z8⟩ := f8 l8; rw [l10] at z8
      obtain ⟨h9, k9, z9⟩ := f9 l9; rw [l11] at z9
      obtain ⟨y2_0, y2_1, -⟩ := f2 l2
      obtain ⟨y6_0, y6_1, -⟩ := f6 l6
      refine hK2 _ _ (hJ _ _ ?_)
      (repeat apply Exists.intro)
      refine ⟨?rel1, rfl⟩
      exact ⟨p1_8, p1_9, B1_2, B1_6, h8, h9, y2_0, y2_1, y6_0, y6_1, z8, z9, g8_9 l8 l9, k8, k9, hG⟩
  case rest =>
    obtain ⟨p1_8, p1_9, B1_2, B1_6, rfl, rfl, B1_2_0, B1_2_1, B1_6_0, B1_6_1, zp1_8, zp1_9, np1_8_p1_9, zp1_8ge, zp1_9ge, hc1⟩ := hcut
    have hXA_1 := (HA).gr hc1
    have hXB_1 := (HB).gr hc1
    have hF_1 := (HF).trans hc1
    obtain ⟨-, -, kgA⟩ := sync_keep B1_2_0 B1_2_1
    obtain ⟨-, -, kgB⟩ := sync_keep B1_6_0 B1_6_1
    generalize syncM B1_2 = A at kgA zp1_8
    generalize syncM B1_6 = B at kgB zp1_9
    have hGL := GrL.of (S := []) (hF_1)
    have cT0 := fun w => (Wd.turn_any d w).mono fun e w' h => (⟨h.1, by rw [h.2]; exact Gr.refl _⟩ : _ ∧ Gr w w')
    have cX0 := fun w => (Wd.other_any d w).mono fun e w' h => (⟨h.1, by rw [h.2]; exact Gr.refl _⟩ : _ ∧ Gr w w')
    by_cases y0 : d = 0
    · subst y0
      have cT := cT0
      clear cT0 cX0
      change ∀ w, Calls Tryz.prog 36 #[.int .u8 0] w fun e w' => e = .returned (.tuple #[.int .u8 0, .bool false]) ∧ Gr w w' at cT
      go_upto_region 2 with fail
      refine rG ?_
      refine sF rfl ?_
      refine wM (v := .int .u8 c) rfl rfl ?_
      simp only [Act.put, zs, z0, z1]
      refine sF rfl ?_
      refine wp_call1 rfl rfl (by go_simp) ?_
      refine ((cd) _).mono ?_
      rintro e wk12 ⟨rfl, hk12⟩
      refine ⟨_, rfl, ?_⟩
      have hp1_8_12 := (zp1_8).gr hk12
      have hp1_9_12 := (zp1_9).gr hk12
      have hF_12 := (hGL).then hk12
      simp only [Act.put, zs, z0, z1]
      refine sF rfl ?_
      refine wA (v := .int .u8 0) rfl rfl ?_
      simp only [Act.put, zs, z0, z1]
      refine s_end ?_
      go_upto_region 3 with fail
      refine rG ?_
      refine sF rfl ?_
      refine wM (v := .int .u8 0) rfl rfl ?_
      simp only [Act.put, zs, z0, z1]
      refine sF rfl ?_
      refine wp_call1 rfl rfl (by go_simp) ?_
      refine ((cT) _).mono ?_
      rintro e wk13 ⟨rfl, hk13⟩
      refine ⟨_, rfl, ?_⟩
      have hp1_8_13 := (hp1_8_12).gr hk13
      have hp1_9_13 := (hp1_9_12).gr hk13
      have hF_13 := (hF_12).then hk13
      simp only [Act.put, zs, z0, z1]
      refine sF rfl ?_
      refine wM (v := .tuple #[.int .u8 0, .bool false]) rfl rfl ?_
      simp only [Act.put, zs, z0, z1]
      refine sF rfl ?_
      refine wp_extract (v := .int .u8 0) rfl rfl rfl ?_
      simp only [Act.put, zs, z0, z1]
      refine sF rfl ?_
      refine wp_extract (v := .bool false) rfl rfl rfl ?_
      simp only [Act.put, zs, z0, z1]
      refine sF rfl ?_
      refine wA (v := .int .u8 0) rfl rfl ?_
      simp only [Act.put, zs, z0, z1]
      refine sF rfl ?_
      refine wA (v := .bool false) rfl rfl ?_
      simp only [Act.put, zs, z0, z1]
      refine s_end ?_
      go_upto_region 4 with fail
      refine rG ?_
      refine sF rfl ?_
      refine wM (v := .bool false) rfl rfl ?_
      simp only [Act.put, zs, z0, z1]
      refine sF rfl ?_
      refine wp_notF rfl rfl ?_
      simp only [Act.put, zs, z0, z1]
      refine s_end ?_
      go_upto_region 5 with fail
      refine rG ?_
      refine sF rfl ?_
      refine wM (v := .int .u8 0) rfl rfl ?_
      simp only [Act.put, zs, z0, z1]
      refine sF rfl ?_
      refine wp_eq8 rfl rfl ?_
      simp only [Act.put, zs, z0, z1]
      refine sF rfl ?_
      refine wM (v := .bool true) rfl rfl ?_
      simp only [Act.put, zs, z0, z1]
      refine s_do (by rfl) ?_
      refine wp_call0 rfl (by go_simp) ?_
      refine ((k_works) _).mono ?_
      rintro e wk14 ⟨rfl, hk14⟩
      refine ⟨_, rfl, ?_⟩
      have hp1_8_14 := (hp1_8_13).gr hk14
      have hp1_9_14 := (hp1_9_13).gr hk14
      have hF_14 := (hF_13).then hk14
      simp only [Act.put, zs, z0, z1]
      refine sF rfl ?_
      refine wp_pickT (v := .bool true) rfl rfl rfl ?_
      simp only [Act.put, zs, z0, z1]
      refine sF rfl ?_
      refine wA (v := .bool true) rfl rfl ?_
      simp only [Act.put, zs, z0, z1]
      refine s_end ?_
      go_wp2
      go_ret
      exact ⟨rfl, (hF_14).gr0⟩
    · obtain ⟨f1, -, f2⟩ := turn_facts hd y0
      have cT := cT0
      clear cT0
      rw [f1] at cT
      have eQ := tell_turn (wd := wd) (so := so) hd y0 kgA kgB
      have hd2 := turn_code hd
      have cP0 := fun w => k_ref (wd := wd) (so := so) hd kgA kgB w
      have cQ0 := fun w => k_ref (wd := wd) (so := so) hd2 kgB kgA w
      rw [eQ, ref_swap, rx_swap, ry_swap, some_swap] at cQ0
      generalize Wd.turnV d = d2 at cT cQ0
      by_cases z4 : d = 4
      · have cX := cX0
        clear cX0
        rw [show Wd.isother d = false by rw [z4]; rfl] at cX
        have cU0 := fun w => k_ref (wd := wd) (so := !so) (c := Wd.otherV d) (by rw [z4]; exact Or.inl rfl) kgA kgB w
        generalize rx (refM (tellM (Wd.otherV d) wd (!so) A B)) = T1 at cU0
        generalize ry (refM (tellM (Wd.otherV d) wd (!so) A B)) = T2 at cU0
        generalize (refM (tellM (Wd.otherV d) wd (!so) A B)).isSome = t3 at cU0
        generalize Wd.otherV d = d3 at cX cU0
        obtain ⟨P1, eP1⟩ : ∃ P, rx (refM (tellM d wd so A B)) = P := ⟨_, rfl⟩
        obtain ⟨P2, eP2⟩ : ∃ P, ry (refM (tellM d wd so A B)) = P := ⟨_, rfl⟩
        rw [eP1, eP2] at cP0 cQ0
        cases e1 : (refM (tellM d wd so A B)).isSome with
        | false =>
          have cP := cP0
          have cQ := cQ0
          have cU := cU0
          rw [e1] at cP cQ
          clear cP0 cQ0 cU0 eP1 eP2 e1
          go_upto_region 2 with fail
          refine rG ?_
          refine sF rfl ?_
          refine wM (v := .int .u8 c) rfl rfl ?_
          simp only [Act.put, zs, z0, z1]
          refine sF rfl ?_
          refine wp_call1 rfl rfl (by go_simp) ?_
          refine ((cd) _).mono ?_
          rintro e wk12 ⟨rfl, hk12⟩
          refine ⟨_, rfl, ?_⟩
          have hp1_8_12 := (zp1_8).gr hk12
          have hp1_9_12 := (zp1_9).gr hk12
          have hF_12 := (hGL).then hk12
          simp only [Act.put, zs, z0, z1]
          refine sF rfl ?_
          refine wA (v := .int .u8 d) rfl rfl ?_
          simp only [Act.put, zs, z0, z1]
          refine s_end ?_
          go_upto_region 3 with fail
          refine rG ?_
          refine sF rfl ?_
          refine wM (v := .int .u8 d) rfl rfl ?_
          simp only [Act.put, zs, z0, z1]
          refine sF rfl ?_
          refine wp_call1 rfl rfl (by go_simp) ?_
          refine ((cT) _).mono ?_
          rintro e wk13 ⟨rfl, hk13⟩
          refine ⟨_, rfl, ?_⟩
          have hp1_8_13 := (hp1_8_12).gr hk13
          have hp1_9_13 := (hp1_9_12).gr hk13
          have hF_13 := (hF_12).then hk13
          simp only [Act.put, zs, z0, z1]
          refine sF rfl ?_
          refine wM (v := .tuple #[.int .u8 d2, .bool true]) rfl rfl ?_
          simp only [Act.put, zs, z0, z1]
          refine sF rfl ?_
          refine wp_extract (v := .int .u8 d2) rfl rfl rfl ?_
          simp only [Act.put, zs, z0, z1]
          refine sF rfl ?_
          refine wp_extract (v := .bool true) rfl rfl rfl ?_
          simp only [Act.put, zs, z0, z1]
          refine sF rfl ?_
          refine wA (v := .int .u8 d2) rfl rfl ?_
          simp only [Act.put, zs, z0, z1]
          refine sF rfl ?_
          refine wA (v := .bool true) rfl rfl ?_
          simp only [Act.put, zs, z0, z1]
          refine s_end ?_
          go_upto_region 4 with fail
          refine rG ?_
          refine sF rfl ?_
          refine wM (v := .bool true) rfl rfl ?_
          simp only [Act.put, zs, z0, z1]
          refine sF rfl ?_
          refine wp_notT rfl rfl ?_
          simp only [Act.put, zs, z0, z1]
          refine s_end ?_
          go_upto_region 6 with fail
          refine rG ?_
          refine sF rfl ?_
          refine wM (v := .int .u8 d) rfl rfl ?_
          simp only [Act.put, zs, z0, z1]
          refine sF rfl ?_
          refine wM (v := .bool wd) rfl rfl ?_
          simp only [Act.put, zs, z0, z1]
          refine sF rfl ?_
          refine wM (v := .bool so) rfl rfl ?_
          simp only [Act.put, zs, z0, z1]
          refine sF rfl ?_
          refine wp_loadB rfl rfl (hp1_8_13) ?_
          simp only [Act.put, zs, z0, z1]
          refine sF rfl ?_
          refine wp_loadB rfl rfl (hp1_9_13) ?_
          simp only [Act.put, zs, z0, z1]
          refine sF rfl ?_
          refine wp_call5 rfl rfl rfl rfl rfl rfl (by go_simp) ?_
          refine ((cP) _).mono ?_
          rintro e wk14 ⟨rfl, hk14⟩
          refine ⟨_, rfl, ?_⟩
          have hp1_8_14 := (hp1_8_13).gr hk14
          have hp1_9_14 := (hp1_9_13).gr hk14
          have hF_14 := (hF_13).then hk14
          simp only [Act.put, zs, z0, z1]
          refine sF rfl ?_
          refine wM (v := .tuple #[.agg (bv P1), .agg (bv P2), .bool false, .int .i64 0]) rfl rfl ?_
          simp only [Act.put, zs, z0, z1]
          refine sF rfl ?_
          refine wp_extract (v := .agg (bv P1)) rfl rfl rfl ?_
          simp only [Act.put, zs, z0, z1]
          refine sF rfl ?_
          refine wp_extract (v := .agg (bv P2)) rfl rfl rfl ?_
          simp only [Act.put, zs, z0, z1]
          refine sF rfl ?_
          refine wp_extract (v := .bool false) rfl rfl rfl ?_
          simp only [Act.put, zs, z0, z1]
          refine sF rfl ?_
          refine wp_extract (v := .int .i64 0) rfl rfl rfl ?_
          simp only [Act.put, zs, z0, z1]
          refine sF rfl ?_
          refine wp_allocB rfl ?_
          intro ws15 hn15 hg15
          obtain ⟨PN15, hb15⟩ : ∃ b, wk14.heap.size = b := ⟨_, rfl⟩
          rw [hb15] at hn15 ⊢
          have hge15 := Nat.le_trans (hF_14).size (Nat.le_of_eq hb15)
          have hnep1_8_PN15 : p1_8 ≠ PN15 := Nat.ne_of_lt (Nat.lt_of_lt_of_le (hp1_8_14).lt (Nat.le_of_eq hb15))
          have hnep1_9_PN15 : p1_9 ≠ PN15 := Nat.ne_of_lt (Nat.lt_of_lt_of_le (hp1_9_14).lt (Nat.le_of_eq hb15))
          have hp1_8_15 := (hp1_8_14).gr hg15
          have hp1_9_15 := (hp1_9_14).gr hg15
          have hF_15 := (hF_14).then hg15
          simp only [Act.put, zs, z0, z1]
          refine sF rfl ?_
          refine wp_allocB rfl ?_
          intro ws16 hn16 hg16
          obtain ⟨PN16, hb16⟩ : ∃ b, ws15.heap.size = b := ⟨_, rfl⟩
          rw [hb16] at hn16 ⊢
          have hge16 := Nat.le_trans (hF_15).size (Nat.le_of_eq hb16)
          have hnep1_8_PN16 : p1_8 ≠ PN16 := Nat.ne_of_lt (Nat.lt_of_lt_of_le (hp1_8_15).lt (Nat.le_of_eq hb16))
          have hnep1_9_PN16 : p1_9 ≠ PN16 := Nat.ne_of_lt (Nat.lt_of_lt_of_le (hp1_9_15).lt (Nat.le_of_eq hb16))
          have hnePN15_PN16 : PN15 ≠ PN16 := Nat.ne_of_lt (Nat.lt_of_lt_of_le (hn15).lt (Nat.le_of_eq hb16))
          have hp1_8_16 := (hp1_8_15).gr hg16
          have hp1_9_16 := (hp1_9_15).gr hg16
          have hPN15_16 := (hn15).gr hg16
          have hF_16 := (hF_15).then hg16
          simp only [Act.put, zs, z0, z1]
          refine sF rfl ?_
          refine wp_storeB rfl rfl rfl (hPN15_16) ?_
          intro ws17 hs17 gx17
          have hp1_8_17 := (hp1_8_16).grx gx17 hnep1_8_PN15
          have hp1_9_17 := (hp1_9_16).grx gx17 hnep1_9_PN15
          have hPN16_17 := (hn16).grx gx17 (Ne.symm hnePN15_PN16)
          have hF_17 := (hF_16).thenx gx17 (.inr hge15)
          change AtA ws17 PN15 (bv P1) 30 at hs17
          simp only [Act.put, zs, z0, z1]
          refine sF rfl ?_
          refine wp_storeB rfl rfl rfl (hPN16_17) ?_
          intro ws18 hs18 gx18
          have hp1_8_18 := (hp1_8_17).grx gx18 hnep1_8_PN16
          have hp1_9_18 := (hp1_9_17).grx gx18 hnep1_9_PN16
          have hPN15_18 := (hs17).grx gx18 hnePN15_PN16
          have hF_18 := (hF_17).thenx gx18 (.inr hge16)
          change AtA ws18 PN16 (bv P2) 30 at hs18
          simp only [Act.put, zs, z0, z1]
          refine sF rfl ?_
          refine wA (v := .bool false) rfl rfl ?_
          simp only [Act.put, zs, z0, z1]
          refine sF rfl ?_
          refine wA (v := .int .i64 0) rfl rfl ?_
          simp only [Act.put, zs, z0, z1]
          refine s_end ?_
          go_upto_region 7 with fail
          refine rG ?_
          refine sF rfl ?_
          refine wM (v := .int .u8 d2) rfl rfl ?_
          simp only [Act.put, zs, z0, z1]
          refine sF rfl ?_
          refine wM (v := .bool wd) rfl rfl ?_
          simp only [Act.put, zs, z0, z1]
          refine sF rfl ?_
          refine wM (v := .bool so) rfl rfl ?_
          simp only [Act.put, zs, z0, z1]
          refine sF rfl ?_
          refine wp_loadB rfl rfl (hp1_9_18) ?_
          simp only [Act.put, zs, z0, z1]
          refine sF rfl ?_
          refine wp_loadB rfl rfl (hp1_8_18) ?_
          simp only [Act.put, zs, z0, z1]
          refine sF rfl ?_
          refine wp_call5 rfl rfl rfl rfl rfl rfl (by go_simp) ?_
          refine ((cQ) _).mono ?_
          rintro e wk19 ⟨rfl, hk19⟩
          refine ⟨_, rfl, ?_⟩
          have hp1_8_19 := (hp1_8_18).gr hk19
          have hp1_9_19 := (hp1_9_18).gr hk19
          have hPN15_19 := (hPN15_18).gr hk19
          have hPN16_19 := (hs18).gr hk19
          have hF_19 := (hF_18).then hk19
          simp only [Act.put, zs, z0, z1]
          refine sF rfl ?_
          refine wM (v := .tuple #[.agg (bv P2), .agg (bv P1), .bool false, .int .i64 0]) rfl rfl ?_
          simp only [Act.put, zs, z0, z1]
          refine sF rfl ?_
          refine wp_extract (v := .agg (bv P2)) rfl rfl rfl ?_
          simp only [Act.put, zs, z0, z1]
          refine sF rfl ?_
          refine wp_extract (v := .agg (bv P1)) rfl rfl rfl ?_
          simp only [Act.put, zs, z0, z1]
          refine sF rfl ?_
          refine wp_extract (v := .bool false) rfl rfl rfl ?_
          simp only [Act.put, zs, z0, z1]
          refine sF rfl ?_
          refine wp_extract (v := .int .i64 0) rfl rfl rfl ?_
          simp only [Act.put, zs, z0, z1]
          refine sF rfl ?_
          refine wp_allocB rfl ?_
          intro ws20 hn20 hg20
          obtain ⟨PN20, hb20⟩ : ∃ b, wk19.heap.size = b := ⟨_, rfl⟩
          rw [hb20] at hn20 ⊢
          have hge20 := Nat.le_trans (hF_19).size (Nat.le_of_eq hb20)
          have hnep1_8_PN20 : p1_8 ≠ PN20 := Nat.ne_of_lt (Nat.lt_of_lt_of_le (hp1_8_19).lt (Nat.le_of_eq hb20))
          have hnep1_9_PN20 : p1_9 ≠ PN20 := Nat.ne_of_lt (Nat.lt_of_lt_of_le (hp1_9_19).lt (Nat.le_of_eq hb20))
          have hnePN15_PN20 : PN15 ≠ PN20 := Nat.ne_of_lt (Nat.lt_of_lt_of_le (hPN15_19).lt (Nat.le_of_eq hb20))
          have hnePN16_PN20 : PN16 ≠ PN20 := Nat.ne_of_lt (Nat.lt_of_lt_of_le (hPN16_19).lt (Nat.le_of_eq hb20))
          have hp1_8_20 := (hp1_8_19).gr hg20
          have hp1_9_20 := (hp1_9_19).gr hg20
          have hPN15_20 := (hPN15_19).gr hg20
          have hPN16_20 := (hPN16_19).gr hg20
          have hF_20 := (hF_19).then hg20
          simp only [Act.put, zs, z0, z1]
          refine sF rfl ?_
          refine wp_allocB rfl ?_
          intro ws21 hn21 hg21
          obtain ⟨PN21, hb21⟩ : ∃ b, ws20.heap.size = b := ⟨_, rfl⟩
          rw [hb21] at hn21 ⊢
          have hge21 := Nat.le_trans (hF_20).size (Nat.le_of_eq hb21)
          have hnep1_8_PN21 : p1_8 ≠ PN21 := Nat.ne_of_lt (Nat.lt_of_lt_of_le (hp1_8_20).lt (Nat.le_of_eq hb21))
          have hnep1_9_PN21 : p1_9 ≠ PN21 := Nat.ne_of_lt (Nat.lt_of_lt_of_le (hp1_9_20).lt (Nat.le_of_eq hb21))
          have hnePN15_PN21 : PN15 ≠ PN21 := Nat.ne_of_lt (Nat.lt_of_lt_of_le (hPN15_20).lt (Nat.le_of_eq hb21))
          have hnePN16_PN21 : PN16 ≠ PN21 := Nat.ne_of_lt (Nat.lt_of_lt_of_le (hPN16_20).lt (Nat.le_of_eq hb21))
          have hnePN20_PN21 : PN20 ≠ PN21 := Nat.ne_of_lt (Nat.lt_of_lt_of_le (hn20).lt (Nat.le_of_eq hb21))
          have hp1_8_21 := (hp1_8_20).gr hg21
          have hp1_9_21 := (hp1_9_20).gr hg21
          have hPN15_21 := (hPN15_20).gr hg21
          have hPN16_21 := (hPN16_20).gr hg21
          have hPN20_21 := (hn20).gr hg21
          have hF_21 := (hF_20).then hg21
          simp only [Act.put, zs, z0, z1]
          refine sF rfl ?_
          refine wp_storeB rfl rfl rfl (hPN20_21) ?_
          intro ws22 hs22 gx22
          have hp1_8_22 := (hp1_8_21).grx gx22 hnep1_8_PN20
          have hp1_9_22 := (hp1_9_21).grx gx22 hnep1_9_PN20
          have hPN15_22 := (hPN15_21).grx gx22 hnePN15_PN20
          have hPN16_22 := (hPN16_21).grx gx22 hnePN16_PN20
          have hPN21_22 := (hn21).grx gx22 (Ne.symm hnePN20_PN21)
          have hF_22 := (hF_21).thenx gx22 (.inr hge20)
          change AtA ws22 PN20 (bv P2) 30 at hs22
          simp only [Act.put, zs, z0, z1]
          refine sF rfl ?_
          refine wp_storeB rfl rfl rfl (hPN21_22) ?_
          intro ws23 hs23 gx23
          have hp1_8_23 := (hp1_8_22).grx gx23 hnep1_8_PN21
          have hp1_9_23 := (hp1_9_22).grx gx23 hnep1_9_PN21
          have hPN15_23 := (hPN15_22).grx gx23 hnePN15_PN21
          have hPN16_23 := (hPN16_22).grx gx23 hnePN16_PN21
          have hPN20_23 := (hs22).grx gx23 hnePN20_PN21
          have hF_23 := (hF_22).thenx gx23 (.inr hge21)
          change AtA ws23 PN21 (bv P1) 30 at hs23
          simp only [Act.put, zs, z0, z1]
          refine sF rfl ?_
          refine wA (v := .bool false) rfl rfl ?_
          simp only [Act.put, zs, z0, z1]
          refine sF rfl ?_
          refine wA (v := .int .i64 0) rfl rfl ?_
          simp only [Act.put, zs, z0, z1]
          refine s_end ?_
          go_upto_region 8 with fail
          refine rG ?_
          refine sF rfl ?_
          refine wM (v := .int .u8 d) rfl rfl ?_
          simp only [Act.put, zs, z0, z1]
          refine sF rfl ?_
          refine wp_call1 rfl rfl (by go_simp) ?_
          refine ((cX) _).mono ?_
          rintro e wk24 ⟨rfl, hk24⟩
          refine ⟨_, rfl, ?_⟩
          have hp1_8_24 := (hp1_8_23).gr hk24
          have hp1_9_24 := (hp1_9_23).gr hk24
          have hPN15_24 := (hPN15_23).gr hk24
          have hPN16_24 := (hPN16_23).gr hk24
          have hPN20_24 := (hPN20_23).gr hk24
          have hPN21_24 := (hs23).gr hk24
          have hF_24 := (hF_23).then hk24
          simp only [Act.put, zs, z0, z1]
          refine sF rfl ?_
          refine wM (v := .tuple #[.int .u8 d3, .bool false]) rfl rfl ?_
          simp only [Act.put, zs, z0, z1]
          refine sF rfl ?_
          refine wp_extract (v := .int .u8 d3) rfl rfl rfl ?_
          simp only [Act.put, zs, z0, z1]
          refine sF rfl ?_
          refine wp_extract (v := .bool false) rfl rfl rfl ?_
          simp only [Act.put, zs, z0, z1]
          refine sF rfl ?_
          refine wA (v := .int .u8 d3) rfl rfl ?_
          simp only [Act.put, zs, z0, z1]
          refine sF rfl ?_
          refine wA (v := .bool false) rfl rfl ?_
          simp only [Act.put, zs, z0, z1]
          refine s_end ?_
          go_upto_region 9 with fail
          refine rG ?_
          refine sF rfl ?_
          refine wM (v := .int .u8 d3) rfl rfl ?_
          simp only [Act.put, zs, z0, z1]
          refine sF rfl ?_
          refine wM (v := .bool wd) rfl rfl ?_
          simp only [Act.put, zs, z0, z1]
          refine sF rfl ?_
          refine wM (v := .bool so) rfl rfl ?_
          simp only [Act.put, zs, z0, z1]
          refine sF rfl ?_
          refine wp_notV (b := so) rfl rfl ?_
          simp only [Act.put, zs, z0, z1]
          refine sF rfl ?_
          refine wp_loadB rfl rfl (hp1_8_24) ?_
          simp only [Act.put, zs, z0, z1]
          refine sF rfl ?_
          refine wp_loadB rfl rfl (hp1_9_24) ?_
          simp only [Act.put, zs, z0, z1]
          refine sF rfl ?_
          refine wp_call5 rfl rfl rfl rfl rfl rfl (by go_simp) ?_
          refine ((cU) _).mono ?_
          rintro e wk25 ⟨rfl, hk25⟩
          refine ⟨_, rfl, ?_⟩
          have hp1_8_25 := (hp1_8_24).gr hk25
          have hp1_9_25 := (hp1_9_24).gr hk25
          have hPN15_25 := (hPN15_24).gr hk25
          have hPN16_25 := (hPN16_24).gr hk25
          have hPN20_25 := (hPN20_24).gr hk25
          have hPN21_25 := (hPN21_24).gr hk25
          have hF_25 := (hF_24).then hk25
          simp only [Act.put, zs, z0, z1]
          refine sF rfl ?_
          refine wM (v := .tuple #[.agg (bv T1), .agg (bv T2), .bool t3, .int .i64 0]) rfl rfl ?_
          simp only [Act.put, zs, z0, z1]
          refine sF rfl ?_
          refine wp_extract (v := .agg (bv T1)) rfl rfl rfl ?_
          simp only [Act.put, zs, z0, z1]
          refine sF rfl ?_
          refine wp_extract (v := .agg (bv T2)) rfl rfl rfl ?_
          simp only [Act.put, zs, z0, z1]
          refine sF rfl ?_
          refine wp_extract (v := .bool t3) rfl rfl rfl ?_
          simp only [Act.put, zs, z0, z1]
          refine sF rfl ?_
          refine wp_extract (v := .int .i64 0) rfl rfl rfl ?_
          simp only [Act.put, zs, z0, z1]
          refine sF rfl ?_
          refine wp_allocB rfl ?_
          intro ws26 hn26 hg26
          obtain ⟨PN26, hb26⟩ : ∃ b, wk25.heap.size = b := ⟨_, rfl⟩
          rw [hb26] at hn26 ⊢
          have hge26 := Nat.le_trans (hF_25).size (Nat.le_of_eq hb26)
          have hnep1_8_PN26 : p1_8 ≠ PN26 := Nat.ne_of_lt (Nat.lt_of_lt_of_le (hp1_8_25).lt (Nat.le_of_eq hb26))
          have hnep1_9_PN26 : p1_9 ≠ PN26 := Nat.ne_of_lt (Nat.lt_of_lt_of_le (hp1_9_25).lt (Nat.le_of_eq hb26))
          have hnePN15_PN26 : PN15 ≠ PN26 := Nat.ne_of_lt (Nat.lt_of_lt_of_le (hPN15_25).lt (Nat.le_of_eq hb26))
          have hnePN16_PN26 : PN16 ≠ PN26 := Nat.ne_of_lt (Nat.lt_of_lt_of_le (hPN16_25).lt (Nat.le_of_eq hb26))
          have hnePN20_PN26 : PN20 ≠ PN26 := Nat.ne_of_lt (Nat.lt_of_lt_of_le (hPN20_25).lt (Nat.le_of_eq hb26))
          have hnePN21_PN26 : PN21 ≠ PN26 := Nat.ne_of_lt (Nat.lt_of_lt_of_le (hPN21_25).lt (Nat.le_of_eq hb26))
          have hp1_8_26 := (hp1_8_25).gr hg26
          have hp1_9_26 := (hp1_9_25).gr hg26
          have hPN15_26 := (hPN15_25).gr hg26
          have hPN16_26 := (hPN16_25).gr hg26
          have hPN20_26 := (hPN20_25).gr hg26
          have hPN21_26 := (hPN21_25).gr hg26
          have hF_26 := (hF_25).then hg26
          simp only [Act.put, zs, z0, z1]
          refine sF rfl ?_
          refine wp_allocB rfl ?_
          intro ws27 hn27 hg27
          obtain ⟨PN27, hb27⟩ : ∃ b, ws26.heap.size = b := ⟨_, rfl⟩
          rw [hb27] at hn27 ⊢
          have hge27 := Nat.le_trans (hF_26).size (Nat.le_of_eq hb27)
          have hnep1_8_PN27 : p1_8 ≠ PN27 := Nat.ne_of_lt (Nat.lt_of_lt_of_le (hp1_8_26).lt (Nat.le_of_eq hb27))
          have hnep1_9_PN27 : p1_9 ≠ PN27 := Nat.ne_of_lt (Nat.lt_of_lt_of_le (hp1_9_26).lt (Nat.le_of_eq hb27))
          have hnePN15_PN27 : PN15 ≠ PN27 := Nat.ne_of_lt (Nat.lt_of_lt_of_le (hPN15_26).lt (Nat.le_of_eq hb27))
          have hnePN16_PN27 : PN16 ≠ PN27 := Nat.ne_of_lt (Nat.lt_of_lt_of_le (hPN16_26).lt (Nat.le_of_eq hb27))
          have hnePN20_PN27 : PN20 ≠ PN27 := Nat.ne_of_lt (Nat.lt_of_lt_of_le (hPN20_26).lt (Nat.le_of_eq hb27))
          have hnePN21_PN27 : PN21 ≠ PN27 := Nat.ne_of_lt (Nat.lt_of_lt_of_le (hPN21_26).lt (Nat.le_of_eq hb27))
          have hnePN26_PN27 : PN26 ≠ PN27 := Nat.ne_of_lt (Nat.lt_of_lt_of_le (hn26).lt (Nat.le_of_eq hb27))
          have hp1_8_27 := (hp1_8_26).gr hg27
          have hp1_9_27 := (hp1_9_26).gr hg27
          have hPN15_27 := (hPN15_26).gr hg27
          have hPN16_27 := (hPN16_26).gr hg27
          have hPN20_27 := (hPN20_26).gr hg27
          have hPN21_27 := (hPN21_26).gr hg27
          have hPN26_27 := (hn26).gr hg27
          have hF_27 := (hF_26).then hg27
          simp only [Act.put, zs, z0, z1]
          refine sF rfl ?_
          refine wp_storeB rfl rfl rfl (hPN26_27) ?_
          intro ws28 hs28 gx28
          have hp1_8_28 := (hp1_8_27).grx gx28 hnep1_8_PN26
          have hp1_9_28 := (hp1_9_27).grx gx28 hnep1_9_PN26
          have hPN15_28 := (hPN15_27).grx gx28 hnePN15_PN26
          have hPN16_28 := (hPN16_27).grx gx28 hnePN16_PN26
          have hPN20_28 := (hPN20_27).grx gx28 hnePN20_PN26
          have hPN21_28 := (hPN21_27).grx gx28 hnePN21_PN26
          have hPN27_28 := (hn27).grx gx28 (Ne.symm hnePN26_PN27)
          have hF_28 := (hF_27).thenx gx28 (.inr hge26)
          change AtA ws28 PN26 (bv T1) 30 at hs28
          simp only [Act.put, zs, z0, z1]
          refine sF rfl ?_
          refine wp_storeB rfl rfl rfl (hPN27_28) ?_
          intro ws29 hs29 gx29
          have hp1_8_29 := (hp1_8_28).grx gx29 hnep1_8_PN27
          have hp1_9_29 := (hp1_9_28).grx gx29 hnep1_9_PN27
          have hPN15_29 := (hPN15_28).grx gx29 hnePN15_PN27
          have hPN16_29 := (hPN16_28).grx gx29 hnePN16_PN27
          have hPN20_29 := (hPN20_28).grx gx29 hnePN20_PN27
          have hPN21_29 := (hPN21_28).grx gx29 hnePN21_PN27
          have hPN26_29 := (hs28).grx gx29 hnePN26_PN27
          have hF_29 := (hF_28).thenx gx29 (.inr hge27)
          change AtA ws29 PN27 (bv T2) 30 at hs29
          simp only [Act.put, zs, z0, z1]
          refine sF rfl ?_
          refine wA (v := .bool t3) rfl rfl ?_
          simp only [Act.put, zs, z0, z1]
          refine sF rfl ?_
          refine wA (v := .int .i64 0) rfl rfl ?_
          simp only [Act.put, zs, z0, z1]
          refine s_end ?_
          go_upto_region 10 with fail
          refine rG ?_
          refine sF rfl ?_
          refine wM (v := .int .i64 0) rfl rfl ?_
          simp only [Act.put, zs, z0, z1]
          refine sF rfl ?_
          refine wp_neK rfl rfl ?_
          simp only [Act.put, zs, z0, z1]
          refine sF rfl ?_
          refine wM (v := .bool false) rfl rfl ?_
          simp only [Act.put, zs, z0, z1]
          refine s_do (by rfl) ?_
          refine wM (v := .int .i64 0) rfl rfl ?_
          simp only [Act.put, zs, z0, z1]
          refine s_do (by rfl) ?_
          refine wp_neK rfl rfl ?_
          simp only [Act.put, zs, z0, z1]
          refine sF rfl ?_
          refine wp_pickF (v := .bool false) rfl rfl rfl ?_
          simp only [Act.put, zs, z0, z1]
          refine sF rfl ?_
          refine wM (v := .bool false) rfl rfl ?_
          simp only [Act.put, zs, z0, z1]
          refine s_do (by rfl) ?_
          refine wp_loadB rfl rfl (hPN15_29) ?_
          simp only [Act.put, zs, z0, z1]
          refine s_do (by rfl) ?_
          refine wp_loadB rfl rfl (hPN21_29) ?_
          simp only [Act.put, zs, z0, z1]
          refine s_do (by rfl) ?_
          refine wp_neKS (d := P1) rfl rfl rfl ?_
          simp only [Act.put, zs, z0, z1]
          refine sF rfl ?_
          refine wp_pickF (v := .bool false) rfl rfl rfl ?_
          simp only [Act.put, zs, z0, z1]
          refine sF rfl ?_
          refine wM (v := .bool false) rfl rfl ?_
          simp only [Act.put, zs, z0, z1]
          refine s_do (by rfl) ?_
          refine wp_loadB rfl rfl (hPN16_29) ?_
          simp only [Act.put, zs, z0, z1]
          refine s_do (by rfl) ?_
          refine wp_loadB rfl rfl (hPN20_29) ?_
          simp only [Act.put, zs, z0, z1]
          refine s_do (by rfl) ?_
          refine wp_neKS (d := P2) rfl rfl rfl ?_
          simp only [Act.put, zs, z0, z1]
          refine sF rfl ?_
          refine wp_pickF (v := .bool false) rfl rfl rfl ?_
          simp only [Act.put, zs, z0, z1]
          refine sF rfl ?_
          refine wM (v := .bool false) rfl rfl ?_
          simp only [Act.put, zs, z0, z1]
          refine s_do (by rfl) ?_
          refine wM (v := .bool false) rfl rfl ?_
          simp only [Act.put, zs, z0, z1]
          refine s_do (by rfl) ?_
          refine wM (v := .bool false) rfl rfl ?_
          simp only [Act.put, zs, z0, z1]
          refine s_do (by rfl) ?_
          refine wp_neKB_f rfl rfl rfl ?_
          simp only [Act.put, zs, z0, z1]
          refine sF rfl ?_
          refine wp_pickF (v := .bool false) rfl rfl rfl ?_
          simp only [Act.put, zs, z0, z1]
          refine s_end ?_
          go_upto_region 12 with fail
          refine rG ?_
          refine sF rfl ?_
          refine wM (v := .bool false) rfl rfl ?_
          simp only [Act.put, zs, z0, z1]
          refine sF rfl ?_
          refine wp_notF rfl rfl ?_
          simp only [Act.put, zs, z0, z1]
          refine sF rfl ?_
          refine wM (v := .bool true) rfl rfl ?_
          simp only [Act.put, zs, z0, z1]
          refine s_skip (by rfl) ?_
          simp only [Act.put, zs, z0, z1]
          refine s_skip (by rfl) ?_
          simp only [Act.put, zs, z0, z1]
          refine s_skip (by rfl) ?_
          simp only [Act.put, zs, z0, z1]
          refine s_skip (by rfl) ?_
          simp only [Act.put, zs, z0, z1]
          refine s_skip (by rfl) ?_
          simp only [Act.put, zs, z0, z1]
          refine s_skip (by rfl) ?_
          simp only [Act.put, zs, z0, z1]
          refine s_skip (by rfl) ?_
          simp only [Act.put, zs, z0, z1]
          refine s_skip (by rfl) ?_
          simp only [Act.put, zs, z0, z1]
          refine s_skip (by rfl) ?_
          simp only [Act.put, zs, z0, z1]
          refine s_skip (by rfl) ?_
          simp only [Act.put, zs, z0, z1]
          refine s_skip (by rfl) ?_
          simp only [Act.put, zs, z0, z1]
          refine s_skip (by rfl) ?_
          simp only [Act.put, zs, z0, z1]
          refine s_skip (by rfl) ?_
          simp only [Act.put, zs, z0, z1]
          refine s_skip (by rfl) ?_
          simp only [Act.put, zs, z0, z1]
          refine s_skip (by rfl) ?_
          simp only [Act.put, zs, z0, z1]
          refine s_skip (by rfl) ?_
          simp only [Act.put, zs, z0, z1]
          refine s_skip (by rfl) ?_
          simp only [Act.put, zs, z0, z1]
          refine sF rfl ?_
          refine wp_pickT (v := .bool true) rfl rfl rfl ?_
          simp only [Act.put, zs, z0, z1]
          refine sF rfl ?_
          refine wM (v := .bool true) rfl rfl ?_
          simp only [Act.put, zs, z0, z1]
          refine s_do (by rfl) ?_
          refine wp_call0 rfl (by go_simp) ?_
          refine ((k_works) _).mono ?_
          rintro e wk30 ⟨rfl, hk30⟩
          refine ⟨_, rfl, ?_⟩
          have hp1_8_30 := (hp1_8_29).gr hk30
          have hp1_9_30 := (hp1_9_29).gr hk30
          have hPN15_30 := (hPN15_29).gr hk30
          have hPN16_30 := (hPN16_29).gr hk30
          have hPN20_30 := (hPN20_29).gr hk30
          have hPN21_30 := (hPN21_29).gr hk30
          have hPN26_30 := (hPN26_29).gr hk30
          have hPN27_30 := (hs29).gr hk30
          have hF_30 := (hF_29).then hk30
          simp only [Act.put, zs, z0, z1]
          refine sF rfl ?_
          refine wp_pickT (v := .bool true) rfl rfl rfl ?_
          simp only [Act.put, zs, z0, z1]
          refine sF rfl ?_
          refine wA (v := .bool true) rfl rfl ?_
          simp only [Act.put, zs, z0, z1]
          refine s_end ?_
          go_wp2
          go_ret
          exact ⟨rfl, (hF_30).gr0⟩
        | true =>
          have cP := cP0
          have cQ := cQ0
          have cU := cU0
          rw [e1] at cP cQ
          clear cP0 cQ0 cU0 eP1 eP2 e1
          go_upto_region 2 with fail
          refine rG ?_
          refine sF rfl ?_
          refine wM (v := .int .u8 c) rfl rfl ?_
          simp only [Act.put, zs, z0, z1]
          refine sF rfl ?_
          refine wp_call1 rfl rfl (by go_simp) ?_
          refine ((cd) _).mono ?_
          rintro e wk12 ⟨rfl, hk12⟩
          refine ⟨_, rfl, ?_⟩
          have hp1_8_12 := (zp1_8).gr hk12
          have hp1_9_12 := (zp1_9).gr hk12
          have hF_12 := (hGL).then hk12
          simp only [Act.put, zs, z0, z1]
          refine sF rfl ?_
          refine wA (v := .int .u8 d) rfl rfl ?_
          simp only [Act.put, zs, z0, z1]
          refine s_end ?_
          go_upto_region 3 with fail
          refine rG ?_
          refine sF rfl ?_
          refine wM (v := .int .u8 d) rfl rfl ?_
          simp only [Act.put, zs, z0, z1]
          refine sF rfl ?_
          refine wp_call1 rfl rfl (by go_simp) ?_
          refine ((cT) _).mono ?_
          rintro e wk13 ⟨rfl, hk13⟩
          refine ⟨_, rfl, ?_⟩
          have hp1_8_13 := (hp1_8_12).gr hk13
          have hp1_9_13 := (hp1_9_12).gr hk13
          have hF_13 := (hF_12).then hk13
          simp only [Act.put, zs, z0, z1]
          refine sF rfl ?_
          refine wM (v := .tuple #[.int .u8 d2, .bool true]) rfl rfl ?_
          simp only [Act.put, zs, z0, z1]
          refine sF rfl ?_
          refine wp_extract (v := .int .u8 d2) rfl rfl rfl ?_
          simp only [Act.put, zs, z0, z1]
          refine sF rfl ?_
          refine wp_extract (v := .bool true) rfl rfl rfl ?_
          simp only [Act.put, zs, z0, z1]
          refine sF rfl ?_
          refine wA (v := .int .u8 d2) rfl rfl ?_
          simp only [Act.put, zs, z0, z1]
          refine sF rfl ?_
          refine wA (v := .bool true) rfl rfl ?_
          simp only [Act.put, zs, z0, z1]
          refine s_end ?_
          go_upto_region 4 with fail
          refine rG ?_
          refine sF rfl ?_
          refine wM (v := .bool true) rfl rfl ?_
          simp only [Act.put, zs, z0, z1]
          refine sF rfl ?_
          refine wp_notT rfl rfl ?_
          simp only [Act.put, zs, z0, z1]
          refine s_end ?_
          go_upto_region 6 with fail
          refine rG ?_
          refine sF rfl ?_
          refine wM (v := .int .u8 d) rfl rfl ?_
          simp only [Act.put, zs, z0, z1]
          refine sF rfl ?_
          refine wM (v := .bool wd) rfl rfl ?_
          simp only [Act.put, zs, z0, z1]
          refine sF rfl ?_
          refine wM (v := .bool so) rfl rfl ?_
          simp only [Act.put, zs, z0, z1]
          refine sF rfl ?_
          refine wp_loadB rfl rfl (hp1_8_13) ?_
          simp only [Act.put, zs, z0, z1]
          refine sF rfl ?_
          refine wp_loadB rfl rfl (hp1_9_13) ?_
          simp only [Act.put, zs, z0, z1]
          refine sF rfl ?_
          refine wp_call5 rfl rfl rfl rfl rfl rfl (by go_simp) ?_
          refine ((cP) _).mono ?_
          rintro e wk14 ⟨rfl, hk14⟩
          refine ⟨_, rfl, ?_⟩
          have hp1_8_14 := (hp1_8_13).gr hk14
          have hp1_9_14 := (hp1_9_13).gr hk14
          have hF_14 := (hF_13).then hk14
          simp only [Act.put, zs, z0, z1]
          refine sF rfl ?_
          refine wM (v := .tuple #[.agg (bv P1), .agg (bv P2), .bool true, .int .i64 0]) rfl rfl ?_
          simp only [Act.put, zs, z0, z1]
          refine sF rfl ?_
          refine wp_extract (v := .agg (bv P1)) rfl rfl rfl ?_
          simp only [Act.put, zs, z0, z1]
          refine sF rfl ?_
          refine wp_extract (v := .agg (bv P2)) rfl rfl rfl ?_
          simp only [Act.put, zs, z0, z1]
          refine sF rfl ?_
          refine wp_extract (v := .bool true) rfl rfl rfl ?_
          simp only [Act.put, zs, z0, z1]
          refine sF rfl ?_
          refine wp_extract (v := .int .i64 0) rfl rfl rfl ?_
          simp only [Act.put, zs, z0, z1]
          refine sF rfl ?_
          refine wp_allocB rfl ?_
          intro ws15 hn15 hg15
          obtain ⟨PN15, hb15⟩ : ∃ b, wk14.heap.size = b := ⟨_, rfl⟩
          rw [hb15] at hn15 ⊢
          have hge15 := Nat.le_trans (hF_14).size (Nat.le_of_eq hb15)
          have hnep1_8_PN15 : p1_8 ≠ PN15 := Nat.ne_of_lt (Nat.lt_of_lt_of_le (hp1_8_14).lt (Nat.le_of_eq hb15))
          have hnep1_9_PN15 : p1_9 ≠ PN15 := Nat.ne_of_lt (Nat.lt_of_lt_of_le (hp1_9_14).lt (Nat.le_of_eq hb15))
          have hp1_8_15 := (hp1_8_14).gr hg15
          have hp1_9_15 := (hp1_9_14).gr hg15
          have hF_15 := (hF_14).then hg15
          simp only [Act.put, zs, z0, z1]
          refine sF rfl ?_
          refine wp_allocB rfl ?_
          intro ws16 hn16 hg16
          obtain ⟨PN16, hb16⟩ : ∃ b, ws15.heap.size = b := ⟨_, rfl⟩
          rw [hb16] at hn16 ⊢
          have hge16 := Nat.le_trans (hF_15).size (Nat.le_of_eq hb16)
          have hnep1_8_PN16 : p1_8 ≠ PN16 := Nat.ne_of_lt (Nat.lt_of_lt_of_le (hp1_8_15).lt (Nat.le_of_eq hb16))
          have hnep1_9_PN16 : p1_9 ≠ PN16 := Nat.ne_of_lt (Nat.lt_of_lt_of_le (hp1_9_15).lt (Nat.le_of_eq hb16))
          have hnePN15_PN16 : PN15 ≠ PN16 := Nat.ne_of_lt (Nat.lt_of_lt_of_le (hn15).lt (Nat.le_of_eq hb16))
          have hp1_8_16 := (hp1_8_15).gr hg16
          have hp1_9_16 := (hp1_9_15).gr hg16
          have hPN15_16 := (hn15).gr hg16
          have hF_16 := (hF_15).then hg16
          simp only [Act.put, zs, z0, z1]
          refine sF rfl ?_
          refine wp_storeB rfl rfl rfl (hPN15_16) ?_
          intro ws17 hs17 gx17
          have hp1_8_17 := (hp1_8_16).grx gx17 hnep1_8_PN15
          have hp1_9_17 := (hp1_9_16).grx gx17 hnep1_9_PN15
          have hPN16_17 := (hn16).grx gx17 (Ne.symm hnePN15_PN16)
          have hF_17 := (hF_16).thenx gx17 (.inr hge15)
          change AtA ws17 PN15 (bv P1) 30 at hs17
          simp only [Act.put, zs, z0, z1]
          refine sF rfl ?_
          refine wp_storeB rfl rfl rfl (hPN16_17) ?_
          intro ws18 hs18 gx18
          have hp1_8_18 := (hp1_8_17).grx gx18 hnep1_8_PN16
          have hp1_9_18 := (hp1_9_17).grx gx18 hnep1_9_PN16
          have hPN15_18 := (hs17).grx gx18 hnePN15_PN16
          have hF_18 := (hF_17).thenx gx18 (.inr hge16)
          change AtA ws18 PN16 (bv P2) 30 at hs18
          simp only [Act.put, zs, z0, z1]
          refine sF rfl ?_
          refine wA (v := .bool true) rfl rfl ?_
          simp only [Act.put, zs, z0, z1]
          refine sF rfl ?_
          refine wA (v := .int .i64 0) rfl rfl ?_
          simp only [Act.put, zs, z0, z1]
          refine s_end ?_
          go_upto_region 7 with fail
          refine rG ?_
          refine sF rfl ?_
          refine wM (v := .int .u8 d2) rfl rfl ?_
          simp only [Act.put, zs, z0, z1]
          refine sF rfl ?_
          refine wM (v := .bool wd) rfl rfl ?_
          simp only [Act.put, zs, z0, z1]
          refine sF rfl ?_
          refine wM (v := .bool so) rfl rfl ?_
          simp only [Act.put, zs, z0, z1]
          refine sF rfl ?_
          refine wp_loadB rfl rfl (hp1_9_18) ?_
          simp only [Act.put, zs, z0, z1]
          refine sF rfl ?_
          refine wp_loadB rfl rfl (hp1_8_18) ?_
          simp only [Act.put, zs, z0, z1]
          refine sF rfl ?_
          refine wp_call5 rfl rfl rfl rfl rfl rfl (by go_simp) ?_
          refine ((cQ) _).mono ?_
          rintro e wk19 ⟨rfl, hk19⟩
          refine ⟨_, rfl, ?_⟩
          have hp1_8_19 := (hp1_8_18).gr hk19
          have hp1_9_19 := (hp1_9_18).gr hk19
          have hPN15_19 := (hPN15_18).gr hk19
          have hPN16_19 := (hs18).gr hk19
          have hF_19 := (hF_18).then hk19
          simp only [Act.put, zs, z0, z1]
          refine sF rfl ?_
          refine wM (v := .tuple #[.agg (bv P2), .agg (bv P1), .bool true, .int .i64 0]) rfl rfl ?_
          simp only [Act.put, zs, z0, z1]
          refine sF rfl ?_
          refine wp_extract (v := .agg (bv P2)) rfl rfl rfl ?_
          simp only [Act.put, zs, z0, z1]
          refine sF rfl ?_
          refine wp_extract (v := .agg (bv P1)) rfl rfl rfl ?_
          simp only [Act.put, zs, z0, z1]
          refine sF rfl ?_
          refine wp_extract (v := .bool true) rfl rfl rfl ?_
          simp only [Act.put, zs, z0, z1]
          refine sF rfl ?_
          refine wp_extract (v := .int .i64 0) rfl rfl rfl ?_
          simp only [Act.put, zs, z0, z1]
          refine sF rfl ?_
          refine wp_allocB rfl ?_
          intro ws20 hn20 hg20
          obtain ⟨PN20, hb20⟩ : ∃ b, wk19.heap.size = b := ⟨_, rfl⟩
          rw [hb20] at hn20 ⊢
          have hge20 := Nat.le_trans (hF_19).size (Nat.le_of_eq hb20)
          have hnep1_8_PN20 : p1_8 ≠ PN20 := Nat.ne_of_lt (Nat.lt_of_lt_of_le (hp1_8_19).lt (Nat.le_of_eq hb20))
          have hnep1_9_PN20 : p1_9 ≠ PN20 := Nat.ne_of_lt (Nat.lt_of_lt_of_le (hp1_9_19).lt (Nat.le_of_eq hb20))
          have hnePN15_PN20 : PN15 ≠ PN20 := Nat.ne_of_lt (Nat.lt_of_lt_of_le (hPN15_19).lt (Nat.le_of_eq hb20))
          have hnePN16_PN20 : PN16 ≠ PN20 := Nat.ne_of_lt (Nat.lt_of_lt_of_le (hPN16_19).lt (Nat.le_of_eq hb20))
          have hp1_8_20 := (hp1_8_19).gr hg20
          have hp1_9_20 := (hp1_9_19).gr hg20
          have hPN15_20 := (hPN15_19).gr hg20
          have hPN16_20 := (hPN16_19).gr hg20
          have hF_20 := (hF_19).then hg20
          simp only [Act.put, zs, z0, z1]
          refine sF rfl ?_
          refine wp_allocB rfl ?_
          intro ws21 hn21 hg21
          obtain ⟨PN21, hb21⟩ : ∃ b, ws20.heap.size = b := ⟨_, rfl⟩
          rw [hb21] at hn21 ⊢
          have hge21 := Nat.le_trans (hF_20).size (Nat.le_of_eq hb21)
          have hnep1_8_PN21 : p1_8 ≠ PN21 := Nat.ne_of_lt (Nat.lt_of_lt_of_le (hp1_8_20).lt (Nat.le_of_eq hb21))
          have hnep1_9_PN21 : p1_9 ≠ PN21 := Nat.ne_of_lt (Nat.lt_of_lt_of_le (hp1_9_20).lt (Nat.le_of_eq hb21))
          have hnePN15_PN21 : PN15 ≠ PN21 := Nat.ne_of_lt (Nat.lt_of_lt_of_le (hPN15_20).lt (Nat.le_of_eq hb21))
          have hnePN16_PN21 : PN16 ≠ PN21 := Nat.ne_of_lt (Nat.lt_of_lt_of_le (hPN16_20).lt (Nat.le_of_eq hb21))
          have hnePN20_PN21 : PN20 ≠ PN21 := Nat.ne_of_lt (Nat.lt_of_lt_of_le (hn20).lt (Nat.le_of_eq hb21))
          have hp1_8_21 := (hp1_8_20).gr hg21
          have hp1_9_21 := (hp1_9_20).gr hg21
          have hPN15_21 := (hPN15_20).gr hg21
          have hPN16_21 := (hPN16_20).gr hg21
          have hPN20_21 := (hn20).gr hg21
          have hF_21 := (hF_20).then hg21
          simp only [Act.put, zs, z0, z1]
          refine sF rfl ?_
          refine wp_storeB rfl rfl rfl (hPN20_21) ?_
          intro ws22 hs22 gx22
          have hp1_8_22 := (hp1_8_21).grx gx22 hnep1_8_PN20
          have hp1_9_22 := (hp1_9_21).grx gx22 hnep1_9_PN20
          have hPN15_22 := (hPN15_21).grx gx22 hnePN15_PN20
          have hPN16_22 := (hPN16_21).grx gx22 hnePN16_PN20
          have hPN21_22 := (hn21).grx gx22 (Ne.symm hnePN20_PN21)
          have hF_22 := (hF_21).thenx gx22 (.inr hge20)
          change AtA ws22 PN20 (bv P2) 30 at hs22
          simp only [Act.put, zs, z0, z1]
          refine sF rfl ?_
          refine wp_storeB rfl rfl rfl (hPN21_22) ?_
          intro ws23 hs23 gx23
          have hp1_8_23 := (hp1_8_22).grx gx23 hnep1_8_PN21
          have hp1_9_23 := (hp1_9_22).grx gx23 hnep1_9_PN21
          have hPN15_23 := (hPN15_22).grx gx23 hnePN15_PN21
          have hPN16_23 := (hPN16_22).grx gx23 hnePN16_PN21
          have hPN20_23 := (hs22).grx gx23 hnePN20_PN21
          have hF_23 := (hF_22).thenx gx23 (.inr hge21)
          change AtA ws23 PN21 (bv P1) 30 at hs23
          simp only [Act.put, zs, z0, z1]
          refine sF rfl ?_
          refine wA (v := .bool true) rfl rfl ?_
          simp only [Act.put, zs, z0, z1]
          refine sF rfl ?_
          refine wA (v := .int .i64 0) rfl rfl ?_
          simp only [Act.put, zs, z0, z1]
          refine s_end ?_
          go_upto_region 8 with fail
          refine rG ?_
          refine sF rfl ?_
          refine wM (v := .int .u8 d) rfl rfl ?_
          simp only [Act.put, zs, z0, z1]
          refine sF rfl ?_
          refine wp_call1 rfl rfl (by go_simp) ?_
          refine ((cX) _).mono ?_
          rintro e wk24 ⟨rfl, hk24⟩
          refine ⟨_, rfl, ?_⟩
          have hp1_8_24 := (hp1_8_23).gr hk24
          have hp1_9_24 := (hp1_9_23).gr hk24
          have hPN15_24 := (hPN15_23).gr hk24
          have hPN16_24 := (hPN16_23).gr hk24
          have hPN20_24 := (hPN20_23).gr hk24
          have hPN21_24 := (hs23).gr hk24
          have hF_24 := (hF_23).then hk24
          simp only [Act.put, zs, z0, z1]
          refine sF rfl ?_
          refine wM (v := .tuple #[.int .u8 d3, .bool false]) rfl rfl ?_
          simp only [Act.put, zs, z0, z1]
          refine sF rfl ?_
          refine wp_extract (v := .int .u8 d3) rfl rfl rfl ?_
          simp only [Act.put, zs, z0, z1]
          refine sF rfl ?_
          refine wp_extract (v := .bool false) rfl rfl rfl ?_
          simp only [Act.put, zs, z0, z1]
          refine sF rfl ?_
          refine wA (v := .int .u8 d3) rfl rfl ?_
          simp only [Act.put, zs, z0, z1]
          refine sF rfl ?_
          refine wA (v := .bool false) rfl rfl ?_
          simp only [Act.put, zs, z0, z1]
          refine s_end ?_
          go_upto_region 9 with fail
          refine rG ?_
          refine sF rfl ?_
          refine wM (v := .int .u8 d3) rfl rfl ?_
          simp only [Act.put, zs, z0, z1]
          refine sF rfl ?_
          refine wM (v := .bool wd) rfl rfl ?_
          simp only [Act.put, zs, z0, z1]
          refine sF rfl ?_
          refine wM (v := .bool so) rfl rfl ?_
          simp only [Act.put, zs, z0, z1]
          refine sF rfl ?_
          refine wp_notV (b := so) rfl rfl ?_
          simp only [Act.put, zs, z0, z1]
          refine sF rfl ?_
          refine wp_loadB rfl rfl (hp1_8_24) ?_
          simp only [Act.put, zs, z0, z1]
          refine sF rfl ?_
          refine wp_loadB rfl rfl (hp1_9_24) ?_
          simp only [Act.put, zs, z0, z1]
          refine sF rfl ?_
          refine wp_call5 rfl rfl rfl rfl rfl rfl (by go_simp) ?_
          refine ((cU) _).mono ?_
          rintro e wk25 ⟨rfl, hk25⟩
          refine ⟨_, rfl, ?_⟩
          have hp1_8_25 := (hp1_8_24).gr hk25
          have hp1_9_25 := (hp1_9_24).gr hk25
          have hPN15_25 := (hPN15_24).gr hk25
          have hPN16_25 := (hPN16_24).gr hk25
          have hPN20_25 := (hPN20_24).gr hk25
          have hPN21_25 := (hPN21_24).gr hk25
          have hF_25 := (hF_24).then hk25
          simp only [Act.put, zs, z0, z1]
          refine sF rfl ?_
          refine wM (v := .tuple #[.agg (bv T1), .agg (bv T2), .bool t3, .int .i64 0]) rfl rfl ?_
          simp only [Act.put, zs, z0, z1]
          refine sF rfl ?_
          refine wp_extract (v := .agg (bv T1)) rfl rfl rfl ?_
          simp only [Act.put, zs, z0, z1]
          refine sF rfl ?_
          refine wp_extract (v := .agg (bv T2)) rfl rfl rfl ?_
          simp only [Act.put, zs, z0, z1]
          refine sF rfl ?_
          refine wp_extract (v := .bool t3) rfl rfl rfl ?_
          simp only [Act.put, zs, z0, z1]
          refine sF rfl ?_
          refine wp_extract (v := .int .i64 0) rfl rfl rfl ?_
          simp only [Act.put, zs, z0, z1]
          refine sF rfl ?_
          refine wp_allocB rfl ?_
          intro ws26 hn26 hg26
          obtain ⟨PN26, hb26⟩ : ∃ b, wk25.heap.size = b := ⟨_, rfl⟩
          rw [hb26] at hn26 ⊢
          have hge26 := Nat.le_trans (hF_25).size (Nat.le_of_eq hb26)
          have hnep1_8_PN26 : p1_8 ≠ PN26 := Nat.ne_of_lt (Nat.lt_of_lt_of_le (hp1_8_25).lt (Nat.le_of_eq hb26))
          have hnep1_9_PN26 : p1_9 ≠ PN26 := Nat.ne_of_lt (Nat.lt_of_lt_of_le (hp1_9_25).lt (Nat.le_of_eq hb26))
          have hnePN15_PN26 : PN15 ≠ PN26 := Nat.ne_of_lt (Nat.lt_of_lt_of_le (hPN15_25).lt (Nat.le_of_eq hb26))
          have hnePN16_PN26 : PN16 ≠ PN26 := Nat.ne_of_lt (Nat.lt_of_lt_of_le (hPN16_25).lt (Nat.le_of_eq hb26))
          have hnePN20_PN26 : PN20 ≠ PN26 := Nat.ne_of_lt (Nat.lt_of_lt_of_le (hPN20_25).lt (Nat.le_of_eq hb26))
          have hnePN21_PN26 : PN21 ≠ PN26 := Nat.ne_of_lt (Nat.lt_of_lt_of_le (hPN21_25).lt (Nat.le_of_eq hb26))
          have hp1_8_26 := (hp1_8_25).gr hg26
          have hp1_9_26 := (hp1_9_25).gr hg26
          have hPN15_26 := (hPN15_25).gr hg26
          have hPN16_26 := (hPN16_25).gr hg26
          have hPN20_26 := (hPN20_25).gr hg26
          have hPN21_26 := (hPN21_25).gr hg26
          have hF_26 := (hF_25).then hg26
          simp only [Act.put, zs, z0, z1]
          refine sF rfl ?_
          refine wp_allocB rfl ?_
          intro ws27 hn27 hg27
          obtain ⟨PN27, hb27⟩ : ∃ b, ws26.heap.size = b := ⟨_, rfl⟩
          rw [hb27] at hn27 ⊢
          have hge27 := Nat.le_trans (hF_26).size (Nat.le_of_eq hb27)
          have hnep1_8_PN27 : p1_8 ≠ PN27 := Nat.ne_of_lt (Nat.lt_of_lt_of_le (hp1_8_26).lt (Nat.le_of_eq hb27))
          have hnep1_9_PN27 : p1_9 ≠ PN27 := Nat.ne_of_lt (Nat.lt_of_lt_of_le (hp1_9_26).lt (Nat.le_of_eq hb27))
          have hnePN15_PN27 : PN15 ≠ PN27 := Nat.ne_of_lt (Nat.lt_of_lt_of_le (hPN15_26).lt (Nat.le_of_eq hb27))
          have hnePN16_PN27 : PN16 ≠ PN27 := Nat.ne_of_lt (Nat.lt_of_lt_of_le (hPN16_26).lt (Nat.le_of_eq hb27))
          have hnePN20_PN27 : PN20 ≠ PN27 := Nat.ne_of_lt (Nat.lt_of_lt_of_le (hPN20_26).lt (Nat.le_of_eq hb27))
          have hnePN21_PN27 : PN21 ≠ PN27 := Nat.ne_of_lt (Nat.lt_of_lt_of_le (hPN21_26).lt (Nat.le_of_eq hb27))
          have hnePN26_PN27 : PN26 ≠ PN27 := Nat.ne_of_lt (Nat.lt_of_lt_of_le (hn26).lt (Nat.le_of_eq hb27))
          have hp1_8_27 := (hp1_8_26).gr hg27
          have hp1_9_27 := (hp1_9_26).gr hg27
          have hPN15_27 := (hPN15_26).gr hg27
          have hPN16_27 := (hPN16_26).gr hg27
          have hPN20_27 := (hPN20_26).gr hg27
          have hPN21_27 := (hPN21_26).gr hg27
          have hPN26_27 := (hn26).gr hg27
          have hF_27 := (hF_26).then hg27
          simp only [Act.put, zs, z0, z1]
          refine sF rfl ?_
          refine wp_storeB rfl rfl rfl (hPN26_27) ?_
          intro ws28 hs28 gx28
          have hp1_8_28 := (hp1_8_27).grx gx28 hnep1_8_PN26
          have hp1_9_28 := (hp1_9_27).grx gx28 hnep1_9_PN26
          have hPN15_28 := (hPN15_27).grx gx28 hnePN15_PN26
          have hPN16_28 := (hPN16_27).grx gx28 hnePN16_PN26
          have hPN20_28 := (hPN20_27).grx gx28 hnePN20_PN26
          have hPN21_28 := (hPN21_27).grx gx28 hnePN21_PN26
          have hPN27_28 := (hn27).grx gx28 (Ne.symm hnePN26_PN27)
          have hF_28 := (hF_27).thenx gx28 (.inr hge26)
          change AtA ws28 PN26 (bv T1) 30 at hs28
          simp only [Act.put, zs, z0, z1]
          refine sF rfl ?_
          refine wp_storeB rfl rfl rfl (hPN27_28) ?_
          intro ws29 hs29 gx29
          have hp1_8_29 := (hp1_8_28).grx gx29 hnep1_8_PN27
          have hp1_9_29 := (hp1_9_28).grx gx29 hnep1_9_PN27
          have hPN15_29 := (hPN15_28).grx gx29 hnePN15_PN27
          have hPN16_29 := (hPN16_28).grx gx29 hnePN16_PN27
          have hPN20_29 := (hPN20_28).grx gx29 hnePN20_PN27
          have hPN21_29 := (hPN21_28).grx gx29 hnePN21_PN27
          have hPN26_29 := (hs28).grx gx29 hnePN26_PN27
          have hF_29 := (hF_28).thenx gx29 (.inr hge27)
          change AtA ws29 PN27 (bv T2) 30 at hs29
          simp only [Act.put, zs, z0, z1]
          refine sF rfl ?_
          refine wA (v := .bool t3) rfl rfl ?_
          simp only [Act.put, zs, z0, z1]
          refine sF rfl ?_
          refine wA (v := .int .i64 0) rfl rfl ?_
          simp only [Act.put, zs, z0, z1]
          refine s_end ?_
          go_upto_region 10 with fail
          refine rG ?_
          refine sF rfl ?_
          refine wM (v := .int .i64 0) rfl rfl ?_
          simp only [Act.put, zs, z0, z1]
          refine sF rfl ?_
          refine wp_neK rfl rfl ?_
          simp only [Act.put, zs, z0, z1]
          refine sF rfl ?_
          refine wM (v := .bool false) rfl rfl ?_
          simp only [Act.put, zs, z0, z1]
          refine s_do (by rfl) ?_
          refine wM (v := .int .i64 0) rfl rfl ?_
          simp only [Act.put, zs, z0, z1]
          refine s_do (by rfl) ?_
          refine wp_neK rfl rfl ?_
          simp only [Act.put, zs, z0, z1]
          refine sF rfl ?_
          refine wp_pickF (v := .bool false) rfl rfl rfl ?_
          simp only [Act.put, zs, z0, z1]
          refine sF rfl ?_
          refine wM (v := .bool false) rfl rfl ?_
          simp only [Act.put, zs, z0, z1]
          refine s_do (by rfl) ?_
          refine wp_loadB rfl rfl (hPN15_29) ?_
          simp only [Act.put, zs, z0, z1]
          refine s_do (by rfl) ?_
          refine wp_loadB rfl rfl (hPN21_29) ?_
          simp only [Act.put, zs, z0, z1]
          refine s_do (by rfl) ?_
          refine wp_neKS (d := P1) rfl rfl rfl ?_
          simp only [Act.put, zs, z0, z1]
          refine sF rfl ?_
          refine wp_pickF (v := .bool false) rfl rfl rfl ?_
          simp only [Act.put, zs, z0, z1]
          refine sF rfl ?_
          refine wM (v := .bool false) rfl rfl ?_
          simp only [Act.put, zs, z0, z1]
          refine s_do (by rfl) ?_
          refine wp_loadB rfl rfl (hPN16_29) ?_
          simp only [Act.put, zs, z0, z1]
          refine s_do (by rfl) ?_
          refine wp_loadB rfl rfl (hPN20_29) ?_
          simp only [Act.put, zs, z0, z1]
          refine s_do (by rfl) ?_
          refine wp_neKS (d := P2) rfl rfl rfl ?_
          simp only [Act.put, zs, z0, z1]
          refine sF rfl ?_
          refine wp_pickF (v := .bool false) rfl rfl rfl ?_
          simp only [Act.put, zs, z0, z1]
          refine sF rfl ?_
          refine wM (v := .bool false) rfl rfl ?_
          simp only [Act.put, zs, z0, z1]
          refine s_do (by rfl) ?_
          refine wM (v := .bool true) rfl rfl ?_
          simp only [Act.put, zs, z0, z1]
          refine s_do (by rfl) ?_
          refine wM (v := .bool true) rfl rfl ?_
          simp only [Act.put, zs, z0, z1]
          refine s_do (by rfl) ?_
          refine wp_neKB_t rfl rfl rfl ?_
          simp only [Act.put, zs, z0, z1]
          refine sF rfl ?_
          refine wp_pickF (v := .bool false) rfl rfl rfl ?_
          simp only [Act.put, zs, z0, z1]
          refine s_end ?_
          go_upto_region 12 with fail
          refine rG ?_
          refine sF rfl ?_
          refine wM (v := .bool false) rfl rfl ?_
          simp only [Act.put, zs, z0, z1]
          refine sF rfl ?_
          refine wp_notF rfl rfl ?_
          simp only [Act.put, zs, z0, z1]
          refine sF rfl ?_
          refine wM (v := .bool true) rfl rfl ?_
          simp only [Act.put, zs, z0, z1]
          refine s_skip (by rfl) ?_
          simp only [Act.put, zs, z0, z1]
          refine s_skip (by rfl) ?_
          simp only [Act.put, zs, z0, z1]
          refine s_skip (by rfl) ?_
          simp only [Act.put, zs, z0, z1]
          refine s_skip (by rfl) ?_
          simp only [Act.put, zs, z0, z1]
          refine s_skip (by rfl) ?_
          simp only [Act.put, zs, z0, z1]
          refine s_skip (by rfl) ?_
          simp only [Act.put, zs, z0, z1]
          refine s_skip (by rfl) ?_
          simp only [Act.put, zs, z0, z1]
          refine s_skip (by rfl) ?_
          simp only [Act.put, zs, z0, z1]
          refine s_skip (by rfl) ?_
          simp only [Act.put, zs, z0, z1]
          refine s_skip (by rfl) ?_
          simp only [Act.put, zs, z0, z1]
          refine s_skip (by rfl) ?_
          simp only [Act.put, zs, z0, z1]
          refine s_skip (by rfl) ?_
          simp only [Act.put, zs, z0, z1]
          refine s_skip (by rfl) ?_
          simp only [Act.put, zs, z0, z1]
          refine s_skip (by rfl) ?_
          simp only [Act.put, zs, z0, z1]
          refine s_skip (by rfl) ?_
          simp only [Act.put, zs, z0, z1]
          refine s_skip (by rfl) ?_
          simp only [Act.put, zs, z0, z1]
          refine s_skip (by rfl) ?_
          simp only [Act.put, zs, z0, z1]
          refine sF rfl ?_
          refine wp_pickT (v := .bool true) rfl rfl rfl ?_
          simp only [Act.put, zs, z0, z1]
          refine sF rfl ?_
          refine wM (v := .bool true) rfl rfl ?_
          simp only [Act.put, zs, z0, z1]
          refine s_do (by rfl) ?_
          refine wp_call0 rfl (by go_simp) ?_
          refine ((k_works) _).mono ?_
          rintro e wk30 ⟨rfl, hk30⟩
          refine ⟨_, rfl, ?_⟩
          have hp1_8_30 := (hp1_8_29).gr hk30
          have hp1_9_30 := (hp1_9_29).gr hk30
          have hPN15_30 := (hPN15_29).gr hk30
          have hPN16_30 := (hPN16_29).gr hk30
          have hPN20_30 := (hPN20_29).gr hk30
          have hPN21_30 := (hPN21_29).gr hk30
          have hPN26_30 := (hPN26_29).gr hk30
          have hPN27_30 := (hs29).gr hk30
          have hF_30 := (hF_29).then hk30
          simp only [Act.put, zs, z0, z1]
          refine sF rfl ?_
          refine wp_pickT (v := .bool true) rfl rfl rfl ?_
          simp only [Act.put, zs, z0, z1]
          refine sF rfl ?_
          refine wA (v := .bool true) rfl rfl ?_
          simp only [Act.put, zs, z0, z1]
          refine s_end ?_
          go_wp2
          go_ret
          exact ⟨rfl, (hF_30).gr0⟩
      · obtain ⟨-, g2, -⟩ := f2 z4
        have cX := cX0
        clear cX0
        rw [g2] at cX
        have cU0 := fun w => k_ref (wd := wd) (so := !so) (other_code hd y0 z4) kgA kgB w
        rw [tell_other hd y0 z4] at cU0
        generalize Wd.otherV d = d3 at cX cU0
        obtain ⟨P1, eP1⟩ : ∃ P, rx (refM (tellM d wd so A B)) = P := ⟨_, rfl⟩
        obtain ⟨P2, eP2⟩ : ∃ P, ry (refM (tellM d wd so A B)) = P := ⟨_, rfl⟩
        rw [eP1, eP2] at cP0 cQ0 cU0
        cases e1 : (refM (tellM d wd so A B)).isSome with
        | false =>
          have cP := cP0
          have cQ := cQ0
          have cU := cU0
          rw [e1] at cP cQ cU
          clear cP0 cQ0 cU0 eP1 eP2 e1
          go_upto_region 2 with fail
          refine rG ?_
          refine sF rfl ?_
          refine wM (v := .int .u8 c) rfl rfl ?_
          simp only [Act.put, zs, z0, z1]
          refine sF rfl ?_
          refine wp_call1 rfl rfl (by go_simp) ?_
          refine ((cd) _).mono ?_
          rintro e wk12 ⟨rfl, hk12⟩
          refine ⟨_, rfl, ?_⟩
          have hp1_8_12 := (zp1_8).gr hk12
          have hp1_9_12 := (zp1_9).gr hk12
          have hF_12 := (hGL).then hk12
          simp only [Act.put, zs, z0, z1]
          refine sF rfl ?_
          refine wA (v := .int .u8 d) rfl rfl ?_
          simp only [Act.put, zs, z0, z1]
          refine s_end ?_
          go_upto_region 3 with fail
          refine rG ?_
          refine sF rfl ?_
          refine wM (v := .int .u8 d) rfl rfl ?_
          simp only [Act.put, zs, z0, z1]
          refine sF rfl ?_
          refine wp_call1 rfl rfl (by go_simp) ?_
          refine ((cT) _).mono ?_
          rintro e wk13 ⟨rfl, hk13⟩
          refine ⟨_, rfl, ?_⟩
          have hp1_8_13 := (hp1_8_12).gr hk13
          have hp1_9_13 := (hp1_9_12).gr hk13
          have hF_13 := (hF_12).then hk13
          simp only [Act.put, zs, z0, z1]
          refine sF rfl ?_
          refine wM (v := .tuple #[.int .u8 d2, .bool true]) rfl rfl ?_
          simp only [Act.put, zs, z0, z1]
          refine sF rfl ?_
          refine wp_extract (v := .int .u8 d2) rfl rfl rfl ?_
          simp only [Act.put, zs, z0, z1]
          refine sF rfl ?_
          refine wp_extract (v := .bool true) rfl rfl rfl ?_
          simp only [Act.put, zs, z0, z1]
          refine sF rfl ?_
          refine wA (v := .int .u8 d2) rfl rfl ?_
          simp only [Act.put, zs, z0, z1]
          refine sF rfl ?_
          refine wA (v := .bool true) rfl rfl ?_
          simp only [Act.put, zs, z0, z1]
          refine s_end ?_
          go_upto_region 4 with fail
          refine rG ?_
          refine sF rfl ?_
          refine wM (v := .bool true) rfl rfl ?_
          simp only [Act.put, zs, z0, z1]
          refine sF rfl ?_
          refine wp_notT rfl rfl ?_
          simp only [Act.put, zs, z0, z1]
          refine s_end ?_
          go_upto_region 6 with fail
          refine rG ?_
          refine sF rfl ?_
          refine wM (v := .int .u8 d) rfl rfl ?_
          simp only [Act.put, zs, z0, z1]
          refine sF rfl ?_
          refine wM (v := .bool wd) rfl rfl ?_
          simp only [Act.put, zs, z0, z1]
          refine sF rfl ?_
          refine wM (v := .bool so) rfl rfl ?_
          simp only [Act.put, zs, z0, z1]
          refine sF rfl ?_
          refine wp_loadB rfl rfl (hp1_8_13) ?_
          simp only [Act.put, zs, z0, z1]
          refine sF rfl ?_
          refine wp_loadB rfl rfl (hp1_9_13) ?_
          simp only [Act.put, zs, z0, z1]
          refine sF rfl ?_
          refine wp_call5 rfl rfl rfl rfl rfl rfl (by go_simp) ?_
          refine ((cP) _).mono ?_
          rintro e wk14 ⟨rfl, hk14⟩
          refine ⟨_, rfl, ?_⟩
          have hp1_8_14 := (hp1_8_13).gr hk14
          have hp1_9_14 := (hp1_9_13).gr hk14
          have hF_14 := (hF_13).then hk14
          simp only [Act.put, zs, z0, z1]
          refine sF rfl ?_
          refine wM (v := .tuple #[.agg (bv P1), .agg (bv P2), .bool false, .int .i64 0]) rfl rfl ?_
          simp only [Act.put, zs, z0, z1]
          refine sF rfl ?_
          refine wp_extract (v := .agg (bv P1)) rfl rfl rfl ?_
          simp only [Act.put, zs, z0, z1]
          refine sF rfl ?_
          refine wp_extract (v := .agg (bv P2)) rfl rfl rfl ?_
          simp only [Act.put, zs, z0, z1]
          refine sF rfl ?_
          refine wp_extract (v := .bool false) rfl rfl rfl ?_
          simp only [Act.put, zs, z0, z1]
          refine sF rfl ?_
          refine wp_extract (v := .int .i64 0) rfl rfl rfl ?_
          simp only [Act.put, zs, z0, z1]
          refine sF rfl ?_
          refine wp_allocB rfl ?_
          intro ws15 hn15 hg15
          obtain ⟨PN15, hb15⟩ : ∃ b, wk14.heap.size = b := ⟨_, rfl⟩
          rw [hb15] at hn15 ⊢
          have hge15 := Nat.le_trans (hF_14).size (Nat.le_of_eq hb15)
          have hnep1_8_PN15 : p1_8 ≠ PN15 := Nat.ne_of_lt (Nat.lt_of_lt_of_le (hp1_8_14).lt (Nat.le_of_eq hb15))
          have hnep1_9_PN15 : p1_9 ≠ PN15 := Nat.ne_of_lt (Nat.lt_of_lt_of_le (hp1_9_14).lt (Nat.le_of_eq hb15))
          have hp1_8_15 := (hp1_8_14).gr hg15
          have hp1_9_15 := (hp1_9_14).gr hg15
          have hF_15 := (hF_14).then hg15
          simp only [Act.put, zs, z0, z1]
          refine sF rfl ?_
          refine wp_allocB rfl ?_
          intro ws16 hn16 hg16
          obtain ⟨PN16, hb16⟩ : ∃ b, ws15.heap.size = b := ⟨_, rfl⟩
          rw [hb16] at hn16 ⊢
          have hge16 := Nat.le_trans (hF_15).size (Nat.le_of_eq hb16)
          have hnep1_8_PN16 : p1_8 ≠ PN16 := Nat.ne_of_lt (Nat.lt_of_lt_of_le (hp1_8_15).lt (Nat.le_of_eq hb16))
          have hnep1_9_PN16 : p1_9 ≠ PN16 := Nat.ne_of_lt (Nat.lt_of_lt_of_le (hp1_9_15).lt (Nat.le_of_eq hb16))
          have hnePN15_PN16 : PN15 ≠ PN16 := Nat.ne_of_lt (Nat.lt_of_lt_of_le (hn15).lt (Nat.le_of_eq hb16))
          have hp1_8_16 := (hp1_8_15).gr hg16
          have hp1_9_16 := (hp1_9_15).gr hg16
          have hPN15_16 := (hn15).gr hg16
          have hF_16 := (hF_15).then hg16
          simp only [Act.put, zs, z0, z1]
          refine sF rfl ?_
          refine wp_storeB rfl rfl rfl (hPN15_16) ?_
          intro ws17 hs17 gx17
          have hp1_8_17 := (hp1_8_16).grx gx17 hnep1_8_PN15
          have hp1_9_17 := (hp1_9_16).grx gx17 hnep1_9_PN15
          have hPN16_17 := (hn16).grx gx17 (Ne.symm hnePN15_PN16)
          have hF_17 := (hF_16).thenx gx17 (.inr hge15)
          change AtA ws17 PN15 (bv P1) 30 at hs17
          simp only [Act.put, zs, z0, z1]
          refine sF rfl ?_
          refine wp_storeB rfl rfl rfl (hPN16_17) ?_
          intro ws18 hs18 gx18
          have hp1_8_18 := (hp1_8_17).grx gx18 hnep1_8_PN16
          have hp1_9_18 := (hp1_9_17).grx gx18 hnep1_9_PN16
          have hPN15_18 := (hs17).grx gx18 hnePN15_PN16
          have hF_18 := (hF_17).thenx gx18 (.inr hge16)
          change AtA ws18 PN16 (bv P2) 30 at hs18
          simp only [Act.put, zs, z0, z1]
          refine sF rfl ?_
          refine wA (v := .bool false) rfl rfl ?_
          simp only [Act.put, zs, z0, z1]
          refine sF rfl ?_
          refine wA (v := .int .i64 0) rfl rfl ?_
          simp only [Act.put, zs, z0, z1]
          refine s_end ?_
          go_upto_region 7 with fail
          refine rG ?_
          refine sF rfl ?_
          refine wM (v := .int .u8 d2) rfl rfl ?_
          simp only [Act.put, zs, z0, z1]
          refine sF rfl ?_
          refine wM (v := .bool wd) rfl rfl ?_
          simp only [Act.put, zs, z0, z1]
          refine sF rfl ?_
          refine wM (v := .bool so) rfl rfl ?_
          simp only [Act.put, zs, z0, z1]
          refine sF rfl ?_
          refine wp_loadB rfl rfl (hp1_9_18) ?_
          simp only [Act.put, zs, z0, z1]
          refine sF rfl ?_
          refine wp_loadB rfl rfl (hp1_8_18) ?_
          simp only [Act.put, zs, z0, z1]
          refine sF rfl ?_
          refine wp_call5 rfl rfl rfl rfl rfl rfl (by go_simp) ?_
          refine ((cQ) _).mono ?_
          rintro e wk19 ⟨rfl, hk19⟩
          refine ⟨_, rfl, ?_⟩
          have hp1_8_19 := (hp1_8_18).gr hk19
          have hp1_9_19 := (hp1_9_18).gr hk19
          have hPN15_19 := (hPN15_18).gr hk19
          have hPN16_19 := (hs18).gr hk19
          have hF_19 := (hF_18).then hk19
          simp only [Act.put, zs, z0, z1]
          refine sF rfl ?_
          refine wM (v := .tuple #[.agg (bv P2), .agg (bv P1), .bool false, .int .i64 0]) rfl rfl ?_
          simp only [Act.put, zs, z0, z1]
          refine sF rfl ?_
          refine wp_extract (v := .agg (bv P2)) rfl rfl rfl ?_
          simp only [Act.put, zs, z0, z1]
          refine sF rfl ?_
          refine wp_extract (v := .agg (bv P1)) rfl rfl rfl ?_
          simp only [Act.put, zs, z0, z1]
          refine sF rfl ?_
          refine wp_extract (v := .bool false) rfl rfl rfl ?_
          simp only [Act.put, zs, z0, z1]
          refine sF rfl ?_
          refine wp_extract (v := .int .i64 0) rfl rfl rfl ?_
          simp only [Act.put, zs, z0, z1]
          refine sF rfl ?_
          refine wp_allocB rfl ?_
          intro ws20 hn20 hg20
          obtain ⟨PN20, hb20⟩ : ∃ b, wk19.heap.size = b := ⟨_, rfl⟩
          rw [hb20] at hn20 ⊢
          have hge20 := Nat.le_trans (hF_19).size (Nat.le_of_eq hb20)
          have hnep1_8_PN20 : p1_8 ≠ PN20 := Nat.ne_of_lt (Nat.lt_of_lt_of_le (hp1_8_19).lt (Nat.le_of_eq hb20))
          have hnep1_9_PN20 : p1_9 ≠ PN20 := Nat.ne_of_lt (Nat.lt_of_lt_of_le (hp1_9_19).lt (Nat.le_of_eq hb20))
          have hnePN15_PN20 : PN15 ≠ PN20 := Nat.ne_of_lt (Nat.lt_of_lt_of_le (hPN15_19).lt (Nat.le_of_eq hb20))
          have hnePN16_PN20 : PN16 ≠ PN20 := Nat.ne_of_lt (Nat.lt_of_lt_of_le (hPN16_19).lt (Nat.le_of_eq hb20))
          have hp1_8_20 := (hp1_8_19).gr hg20
          have hp1_9_20 := (hp1_9_19).gr hg20
          have hPN15_20 := (hPN15_19).gr hg20
          have hPN16_20 := (hPN16_19).gr hg20
          have hF_20 := (hF_19).then hg20
          simp only [Act.put, zs, z0, z1]
          refine sF rfl ?_
          refine wp_allocB rfl ?_
          intro ws21 hn21 hg21
          obtain ⟨PN21, hb21⟩ : ∃ b, ws20.heap.size = b := ⟨_, rfl⟩
          rw [hb21] at hn21 ⊢
          have hge21 := Nat.le_trans (hF_20).size (Nat.le_of_eq hb21)
          have hnep1_8_PN21 : p1_8 ≠ PN21 := Nat.ne_of_lt (Nat.lt_of_lt_of_le (hp1_8_20).lt (Nat.le_of_eq hb21))
          have hnep1_9_PN21 : p1_9 ≠ PN21 := Nat.ne_of_lt (Nat.lt_of_lt_of_le (hp1_9_20).lt (Nat.le_of_eq hb21))
          have hnePN15_PN21 : PN15 ≠ PN21 := Nat.ne_of_lt (Nat.lt_of_lt_of_le (hPN15_20).lt (Nat.le_of_eq hb21))
          have hnePN16_PN21 : PN16 ≠ PN21 := Nat.ne_of_lt (Nat.lt_of_lt_of_le (hPN16_20).lt (Nat.le_of_eq hb21))
          have hnePN20_PN21 : PN20 ≠ PN21 := Nat.ne_of_lt (Nat.lt_of_lt_of_le (hn20).lt (Nat.le_of_eq hb21))
          have hp1_8_21 := (hp1_8_20).gr hg21
          have hp1_9_21 := (hp1_9_20).gr hg21
          have hPN15_21 := (hPN15_20).gr hg21
          have hPN16_21 := (hPN16_20).gr hg21
          have hPN20_21 := (hn20).gr hg21
          have hF_21 := (hF_20).then hg21
          simp only [Act.put, zs, z0, z1]
          refine sF rfl ?_
          refine wp_storeB rfl rfl rfl (hPN20_21) ?_
          intro ws22 hs22 gx22
          have hp1_8_22 := (hp1_8_21).grx gx22 hnep1_8_PN20
          have hp1_9_22 := (hp1_9_21).grx gx22 hnep1_9_PN20
          have hPN15_22 := (hPN15_21).grx gx22 hnePN15_PN20
          have hPN16_22 := (hPN16_21).grx gx22 hnePN16_PN20
          have hPN21_22 := (hn21).grx gx22 (Ne.symm hnePN20_PN21)
          have hF_22 := (hF_21).thenx gx22 (.inr hge20)
          change AtA ws22 PN20 (bv P2) 30 at hs22
          simp only [Act.put, zs, z0, z1]
          refine sF rfl ?_
          refine wp_storeB rfl rfl rfl (hPN21_22) ?_
          intro ws23 hs23 gx23
          have hp1_8_23 := (hp1_8_22).grx gx23 hnep1_8_PN21
          have hp1_9_23 := (hp1_9_22).grx gx23 hnep1_9_PN21
          have hPN15_23 := (hPN15_22).grx gx23 hnePN15_PN21
          have hPN16_23 := (hPN16_22).grx gx23 hnePN16_PN21
          have hPN20_23 := (hs22).grx gx23 hnePN20_PN21
          have hF_23 := (hF_22).thenx gx23 (.inr hge21)
          change AtA ws23 PN21 (bv P1) 30 at hs23
          simp only [Act.put, zs, z0, z1]
          refine sF rfl ?_
          refine wA (v := .bool false) rfl rfl ?_
          simp only [Act.put, zs, z0, z1]
          refine sF rfl ?_
          refine wA (v := .int .i64 0) rfl rfl ?_
          simp only [Act.put, zs, z0, z1]
          refine s_end ?_
          go_upto_region 8 with fail
          refine rG ?_
          refine sF rfl ?_
          refine wM (v := .int .u8 d) rfl rfl ?_
          simp only [Act.put, zs, z0, z1]
          refine sF rfl ?_
          refine wp_call1 rfl rfl (by go_simp) ?_
          refine ((cX) _).mono ?_
          rintro e wk24 ⟨rfl, hk24⟩
          refine ⟨_, rfl, ?_⟩
          have hp1_8_24 := (hp1_8_23).gr hk24
          have hp1_9_24 := (hp1_9_23).gr hk24
          have hPN15_24 := (hPN15_23).gr hk24
          have hPN16_24 := (hPN16_23).gr hk24
          have hPN20_24 := (hPN20_23).gr hk24
          have hPN21_24 := (hs23).gr hk24
          have hF_24 := (hF_23).then hk24
          simp only [Act.put, zs, z0, z1]
          refine sF rfl ?_
          refine wM (v := .tuple #[.int .u8 d3, .bool true]) rfl rfl ?_
          simp only [Act.put, zs, z0, z1]
          refine sF rfl ?_
          refine wp_extract (v := .int .u8 d3) rfl rfl rfl ?_
          simp only [Act.put, zs, z0, z1]
          refine sF rfl ?_
          refine wp_extract (v := .bool true) rfl rfl rfl ?_
          simp only [Act.put, zs, z0, z1]
          refine sF rfl ?_
          refine wA (v := .int .u8 d3) rfl rfl ?_
          simp only [Act.put, zs, z0, z1]
          refine sF rfl ?_
          refine wA (v := .bool true) rfl rfl ?_
          simp only [Act.put, zs, z0, z1]
          refine s_end ?_
          go_upto_region 9 with fail
          refine rG ?_
          refine sF rfl ?_
          refine wM (v := .int .u8 d3) rfl rfl ?_
          simp only [Act.put, zs, z0, z1]
          refine sF rfl ?_
          refine wM (v := .bool wd) rfl rfl ?_
          simp only [Act.put, zs, z0, z1]
          refine sF rfl ?_
          refine wM (v := .bool so) rfl rfl ?_
          simp only [Act.put, zs, z0, z1]
          refine sF rfl ?_
          refine wp_notV (b := so) rfl rfl ?_
          simp only [Act.put, zs, z0, z1]
          refine sF rfl ?_
          refine wp_loadB rfl rfl (hp1_8_24) ?_
          simp only [Act.put, zs, z0, z1]
          refine sF rfl ?_
          refine wp_loadB rfl rfl (hp1_9_24) ?_
          simp only [Act.put, zs, z0, z1]
          refine sF rfl ?_
          refine wp_call5 rfl rfl rfl rfl rfl rfl (by go_simp) ?_
          refine ((cU) _).mono ?_
          rintro e wk25 ⟨rfl, hk25⟩
          refine ⟨_, rfl, ?_⟩
          have hp1_8_25 := (hp1_8_24).gr hk25
          have hp1_9_25 := (hp1_9_24).gr hk25
          have hPN15_25 := (hPN15_24).gr hk25
          have hPN16_25 := (hPN16_24).gr hk25
          have hPN20_25 := (hPN20_24).gr hk25
          have hPN21_25 := (hPN21_24).gr hk25
          have hF_25 := (hF_24).then hk25
          simp only [Act.put, zs, z0, z1]
          refine sF rfl ?_
          refine wM (v := .tuple #[.agg (bv P1), .agg (bv P2), .bool false, .int .i64 0]) rfl rfl ?_
          simp only [Act.put, zs, z0, z1]
          refine sF rfl ?_
          refine wp_extract (v := .agg (bv P1)) rfl rfl rfl ?_
          simp only [Act.put, zs, z0, z1]
          refine sF rfl ?_
          refine wp_extract (v := .agg (bv P2)) rfl rfl rfl ?_
          simp only [Act.put, zs, z0, z1]
          refine sF rfl ?_
          refine wp_extract (v := .bool false) rfl rfl rfl ?_
          simp only [Act.put, zs, z0, z1]
          refine sF rfl ?_
          refine wp_extract (v := .int .i64 0) rfl rfl rfl ?_
          simp only [Act.put, zs, z0, z1]
          refine sF rfl ?_
          refine wp_allocB rfl ?_
          intro ws26 hn26 hg26
          obtain ⟨PN26, hb26⟩ : ∃ b, wk25.heap.size = b := ⟨_, rfl⟩
          rw [hb26] at hn26 ⊢
          have hge26 := Nat.le_trans (hF_25).size (Nat.le_of_eq hb26)
          have hnep1_8_PN26 : p1_8 ≠ PN26 := Nat.ne_of_lt (Nat.lt_of_lt_of_le (hp1_8_25).lt (Nat.le_of_eq hb26))
          have hnep1_9_PN26 : p1_9 ≠ PN26 := Nat.ne_of_lt (Nat.lt_of_lt_of_le (hp1_9_25).lt (Nat.le_of_eq hb26))
          have hnePN15_PN26 : PN15 ≠ PN26 := Nat.ne_of_lt (Nat.lt_of_lt_of_le (hPN15_25).lt (Nat.le_of_eq hb26))
          have hnePN16_PN26 : PN16 ≠ PN26 := Nat.ne_of_lt (Nat.lt_of_lt_of_le (hPN16_25).lt (Nat.le_of_eq hb26))
          have hnePN20_PN26 : PN20 ≠ PN26 := Nat.ne_of_lt (Nat.lt_of_lt_of_le (hPN20_25).lt (Nat.le_of_eq hb26))
          have hnePN21_PN26 : PN21 ≠ PN26 := Nat.ne_of_lt (Nat.lt_of_lt_of_le (hPN21_25).lt (Nat.le_of_eq hb26))
          have hp1_8_26 := (hp1_8_25).gr hg26
          have hp1_9_26 := (hp1_9_25).gr hg26
          have hPN15_26 := (hPN15_25).gr hg26
          have hPN16_26 := (hPN16_25).gr hg26
          have hPN20_26 := (hPN20_25).gr hg26
          have hPN21_26 := (hPN21_25).gr hg26
          have hF_26 := (hF_25).then hg26
          simp only [Act.put, zs, z0, z1]
          refine sF rfl ?_
          refine wp_allocB rfl ?_
          intro ws27 hn27 hg27
          obtain ⟨PN27, hb27⟩ : ∃ b, ws26.heap.size = b := ⟨_, rfl⟩
          rw [hb27] at hn27 ⊢
          have hge27 := Nat.le_trans (hF_26).size (Nat.le_of_eq hb27)
          have hnep1_8_PN27 : p1_8 ≠ PN27 := Nat.ne_of_lt (Nat.lt_of_lt_of_le (hp1_8_26).lt (Nat.le_of_eq hb27))
          have hnep1_9_PN27 : p1_9 ≠ PN27 := Nat.ne_of_lt (Nat.lt_of_lt_of_le (hp1_9_26).lt (Nat.le_of_eq hb27))
          have hnePN15_PN27 : PN15 ≠ PN27 := Nat.ne_of_lt (Nat.lt_of_lt_of_le (hPN15_26).lt (Nat.le_of_eq hb27))
          have hnePN16_PN27 : PN16 ≠ PN27 := Nat.ne_of_lt (Nat.lt_of_lt_of_le (hPN16_26).lt (Nat.le_of_eq hb27))
          have hnePN20_PN27 : PN20 ≠ PN27 := Nat.ne_of_lt (Nat.lt_of_lt_of_le (hPN20_26).lt (Nat.le_of_eq hb27))
          have hnePN21_PN27 : PN21 ≠ PN27 := Nat.ne_of_lt (Nat.lt_of_lt_of_le (hPN21_26).lt (Nat.le_of_eq hb27))
          have hnePN26_PN27 : PN26 ≠ PN27 := Nat.ne_of_lt (Nat.lt_of_lt_of_le (hn26).lt (Nat.le_of_eq hb27))
          have hp1_8_27 := (hp1_8_26).gr hg27
          have hp1_9_27 := (hp1_9_26).gr hg27
          have hPN15_27 := (hPN15_26).gr hg27
          have hPN16_27 := (hPN16_26).gr hg27
          have hPN20_27 := (hPN20_26).gr hg27
          have hPN21_27 := (hPN21_26).gr hg27
          have hPN26_27 := (hn26).gr hg27
          have hF_27 := (hF_26).then hg27
          simp only [Act.put, zs, z0, z1]
          refine sF rfl ?_
          refine wp_storeB rfl rfl rfl (hPN26_27) ?_
          intro ws28 hs28 gx28
          have hp1_8_28 := (hp1_8_27).grx gx28 hnep1_8_PN26
          have hp1_9_28 := (hp1_9_27).grx gx28 hnep1_9_PN26
          have hPN15_28 := (hPN15_27).grx gx28 hnePN15_PN26
          have hPN16_28 := (hPN16_27).grx gx28 hnePN16_PN26
          have hPN20_28 := (hPN20_27).grx gx28 hnePN20_PN26
          have hPN21_28 := (hPN21_27).grx gx28 hnePN21_PN26
          have hPN27_28 := (hn27).grx gx28 (Ne.symm hnePN26_PN27)
          have hF_28 := (hF_27).thenx gx28 (.inr hge26)
          change AtA ws28 PN26 (bv P1) 30 at hs28
          simp only [Act.put, zs, z0, z1]
          refine sF rfl ?_
          refine wp_storeB rfl rfl rfl (hPN27_28) ?_
          intro ws29 hs29 gx29
          have hp1_8_29 := (hp1_8_28).grx gx29 hnep1_8_PN27
          have hp1_9_29 := (hp1_9_28).grx gx29 hnep1_9_PN27
          have hPN15_29 := (hPN15_28).grx gx29 hnePN15_PN27
          have hPN16_29 := (hPN16_28).grx gx29 hnePN16_PN27
          have hPN20_29 := (hPN20_28).grx gx29 hnePN20_PN27
          have hPN21_29 := (hPN21_28).grx gx29 hnePN21_PN27
          have hPN26_29 := (hs28).grx gx29 hnePN26_PN27
          have hF_29 := (hF_28).thenx gx29 (.inr hge27)
          change AtA ws29 PN27 (bv P2) 30 at hs29
          simp only [Act.put, zs, z0, z1]
          refine sF rfl ?_
          refine wA (v := .bool false) rfl rfl ?_
          simp only [Act.put, zs, z0, z1]
          refine sF rfl ?_
          refine wA (v := .int .i64 0) rfl rfl ?_
          simp only [Act.put, zs, z0, z1]
          refine s_end ?_
          go_upto_region 10 with fail
          refine rG ?_
          refine sF rfl ?_
          refine wM (v := .int .i64 0) rfl rfl ?_
          simp only [Act.put, zs, z0, z1]
          refine sF rfl ?_
          refine wp_neK rfl rfl ?_
          simp only [Act.put, zs, z0, z1]
          refine sF rfl ?_
          refine wM (v := .bool false) rfl rfl ?_
          simp only [Act.put, zs, z0, z1]
          refine s_do (by rfl) ?_
          refine wM (v := .int .i64 0) rfl rfl ?_
          simp only [Act.put, zs, z0, z1]
          refine s_do (by rfl) ?_
          refine wp_neK rfl rfl ?_
          simp only [Act.put, zs, z0, z1]
          refine sF rfl ?_
          refine wp_pickF (v := .bool false) rfl rfl rfl ?_
          simp only [Act.put, zs, z0, z1]
          refine sF rfl ?_
          refine wM (v := .bool false) rfl rfl ?_
          simp only [Act.put, zs, z0, z1]
          refine s_do (by rfl) ?_
          refine wp_loadB rfl rfl (hPN15_29) ?_
          simp only [Act.put, zs, z0, z1]
          refine s_do (by rfl) ?_
          refine wp_loadB rfl rfl (hPN21_29) ?_
          simp only [Act.put, zs, z0, z1]
          refine s_do (by rfl) ?_
          refine wp_neKS (d := P1) rfl rfl rfl ?_
          simp only [Act.put, zs, z0, z1]
          refine sF rfl ?_
          refine wp_pickF (v := .bool false) rfl rfl rfl ?_
          simp only [Act.put, zs, z0, z1]
          refine sF rfl ?_
          refine wM (v := .bool false) rfl rfl ?_
          simp only [Act.put, zs, z0, z1]
          refine s_do (by rfl) ?_
          refine wp_loadB rfl rfl (hPN16_29) ?_
          simp only [Act.put, zs, z0, z1]
          refine s_do (by rfl) ?_
          refine wp_loadB rfl rfl (hPN20_29) ?_
          simp only [Act.put, zs, z0, z1]
          refine s_do (by rfl) ?_
          refine wp_neKS (d := P2) rfl rfl rfl ?_
          simp only [Act.put, zs, z0, z1]
          refine sF rfl ?_
          refine wp_pickF (v := .bool false) rfl rfl rfl ?_
          simp only [Act.put, zs, z0, z1]
          refine sF rfl ?_
          refine wM (v := .bool false) rfl rfl ?_
          simp only [Act.put, zs, z0, z1]
          refine s_do (by rfl) ?_
          refine wM (v := .bool false) rfl rfl ?_
          simp only [Act.put, zs, z0, z1]
          refine s_do (by rfl) ?_
          refine wM (v := .bool false) rfl rfl ?_
          simp only [Act.put, zs, z0, z1]
          refine s_do (by rfl) ?_
          refine wp_neKB_f rfl rfl rfl ?_
          simp only [Act.put, zs, z0, z1]
          refine sF rfl ?_
          refine wp_pickF (v := .bool false) rfl rfl rfl ?_
          simp only [Act.put, zs, z0, z1]
          refine s_end ?_
          go_upto_region 12 with fail
          refine rG ?_
          refine sF rfl ?_
          refine wM (v := .bool true) rfl rfl ?_
          simp only [Act.put, zs, z0, z1]
          refine sF rfl ?_
          refine wp_notT rfl rfl ?_
          simp only [Act.put, zs, z0, z1]
          refine sF rfl ?_
          refine wM (v := .bool false) rfl rfl ?_
          simp only [Act.put, zs, z0, z1]
          refine s_do (by rfl) ?_
          refine wM (v := .int .i64 0) rfl rfl ?_
          simp only [Act.put, zs, z0, z1]
          refine s_do (by rfl) ?_
          refine wp_eqK rfl rfl ?_
          simp only [Act.put, zs, z0, z1]
          refine s_do (by rfl) ?_
          refine wM (v := .bool true) rfl rfl ?_
          simp only [Act.put, zs, z0, z1]
          refine s_do (by rfl) ?_
          refine wp_loadB rfl rfl (hPN26_29) ?_
          simp only [Act.put, zs, z0, z1]
          refine s_do (by rfl) ?_
          refine wp_loadB rfl rfl (hPN15_29) ?_
          simp only [Act.put, zs, z0, z1]
          refine s_do (by rfl) ?_
          refine wp_eqKS (d := P1) rfl rfl rfl ?_
          simp only [Act.put, zs, z0, z1]
          refine s_do (by rfl) ?_
          refine wp_pickT (v := .bool true) rfl rfl rfl ?_
          simp only [Act.put, zs, z0, z1]
          refine s_do (by rfl) ?_
          refine wM (v := .bool true) rfl rfl ?_
          simp only [Act.put, zs, z0, z1]
          refine s_do (by rfl) ?_
          refine wp_loadB rfl rfl (hs29) ?_
          simp only [Act.put, zs, z0, z1]
          refine s_do (by rfl) ?_
          refine wp_loadB rfl rfl (hPN16_29) ?_
          simp only [Act.put, zs, z0, z1]
          refine s_do (by rfl) ?_
          refine wp_eqKS (d := P2) rfl rfl rfl ?_
          simp only [Act.put, zs, z0, z1]
          refine s_do (by rfl) ?_
          refine wp_pickT (v := .bool true) rfl rfl rfl ?_
          simp only [Act.put, zs, z0, z1]
          refine s_do (by rfl) ?_
          refine wM (v := .bool true) rfl rfl ?_
          simp only [Act.put, zs, z0, z1]
          refine s_do (by rfl) ?_
          refine wM (v := .bool false) rfl rfl ?_
          simp only [Act.put, zs, z0, z1]
          refine s_do (by rfl) ?_
          refine wM (v := .bool false) rfl rfl ?_
          simp only [Act.put, zs, z0, z1]
          refine s_do (by rfl) ?_
          refine wp_eqKB_f rfl rfl rfl ?_
          simp only [Act.put, zs, z0, z1]
          refine s_do (by rfl) ?_
          refine wp_pickT (v := .bool true) rfl rfl rfl ?_
          simp only [Act.put, zs, z0, z1]
          refine sF rfl ?_
          refine wp_pickF (v := .bool true) rfl rfl rfl ?_
          simp only [Act.put, zs, z0, z1]
          refine sF rfl ?_
          refine wM (v := .bool true) rfl rfl ?_
          simp only [Act.put, zs, z0, z1]
          refine s_do (by rfl) ?_
          refine wp_call0 rfl (by go_simp) ?_
          refine ((k_works) _).mono ?_
          rintro e wk30 ⟨rfl, hk30⟩
          refine ⟨_, rfl, ?_⟩
          have hp1_8_30 := (hp1_8_29).gr hk30
          have hp1_9_30 := (hp1_9_29).gr hk30
          have hPN15_30 := (hPN15_29).gr hk30
          have hPN16_30 := (hPN16_29).gr hk30
          have hPN20_30 := (hPN20_29).gr hk30
          have hPN21_30 := (hPN21_29).gr hk30
          have hPN26_30 := (hPN26_29).gr hk30
          have hPN27_30 := (hs29).gr hk30
          have hF_30 := (hF_29).then hk30
          simp only [Act.put, zs, z0, z1]
          refine sF rfl ?_
          refine wp_pickT (v := .bool true) rfl rfl rfl ?_
          simp only [Act.put, zs, z0, z1]
          refine sF rfl ?_
          refine wA (v := .bool true) rfl rfl ?_
          simp only [Act.put, zs, z0, z1]
          refine s_end ?_
          go_wp2
          go_ret
          exact ⟨rfl, (hF_30).gr0⟩
        | true =>
          have cP := cP0
          have cQ := cQ0
          have cU := cU0
          rw [e1] at cP cQ cU
          clear cP0 cQ0 cU0 eP1 eP2 e1
          go_upto_region 2 with fail
          refine rG ?_
          refine sF rfl ?_
          refine wM (v := .int .u8 c) rfl rfl ?_
          simp only [Act.put, zs, z0, z1]
          refine sF rfl ?_
          refine wp_call1 rfl rfl (by go_simp) ?_
          refine ((cd) _).mono ?_
          rintro e wk12 ⟨rfl, hk12⟩
          refine ⟨_, rfl, ?_⟩
          have hp1_8_12 := (zp1_8).gr hk12
          have hp1_9_12 := (zp1_9).gr hk12
          have hF_12 := (hGL).then hk12
          simp only [Act.put, zs, z0, z1]
          refine sF rfl ?_
          refine wA (v := .int .u8 d) rfl rfl ?_
          simp only [Act.put, zs, z0, z1]
          refine s_end ?_
          go_upto_region 3 with fail
          refine rG ?_
          refine sF rfl ?_
          refine wM (v := .int .u8 d) rfl rfl ?_
          simp only [Act.put, zs, z0, z1]
          refine sF rfl ?_
          refine wp_call1 rfl rfl (by go_simp) ?_
          refine ((cT) _).mono ?_
          rintro e wk13 ⟨rfl, hk13⟩
          refine ⟨_, rfl, ?_⟩
          have hp1_8_13 := (hp1_8_12).gr hk13
          have hp1_9_13 := (hp1_9_12).gr hk13
          have hF_13 := (hF_12).then hk13
          simp only [Act.put, zs, z0, z1]
          refine sF rfl ?_
          refine wM (v := .tuple #[.int .u8 d2, .bool true]) rfl rfl ?_
          simp only [Act.put, zs, z0, z1]
          refine sF rfl ?_
          refine wp_extract (v := .int .u8 d2) rfl rfl rfl ?_
          simp only [Act.put, zs, z0, z1]
          refine sF rfl ?_
          refine wp_extract (v := .bool true) rfl rfl rfl ?_
          simp only [Act.put, zs, z0, z1]
          refine sF rfl ?_
          refine wA (v := .int .u8 d2) rfl rfl ?_
          simp only [Act.put, zs, z0, z1]
          refine sF rfl ?_
          refine wA (v := .bool true) rfl rfl ?_
          simp only [Act.put, zs, z0, z1]
          refine s_end ?_
          go_upto_region 4 with fail
          refine rG ?_
          refine sF rfl ?_
          refine wM (v := .bool true) rfl rfl ?_
          simp only [Act.put, zs, z0, z1]
          refine sF rfl ?_
          refine wp_notT rfl rfl ?_
          simp only [Act.put, zs, z0, z1]
          refine s_end ?_
          go_upto_region 6 with fail
          refine rG ?_
          refine sF rfl ?_
          refine wM (v := .int .u8 d) rfl rfl ?_
          simp only [Act.put, zs, z0, z1]
          refine sF rfl ?_
          refine wM (v := .bool wd) rfl rfl ?_
          simp only [Act.put, zs, z0, z1]
          refine sF rfl ?_
          refine wM (v := .bool so) rfl rfl ?_
          simp only [Act.put, zs, z0, z1]
          refine sF rfl ?_
          refine wp_loadB rfl rfl (hp1_8_13) ?_
          simp only [Act.put, zs, z0, z1]
          refine sF rfl ?_
          refine wp_loadB rfl rfl (hp1_9_13) ?_
          simp only [Act.put, zs, z0, z1]
          refine sF rfl ?_
          refine wp_call5 rfl rfl rfl rfl rfl rfl (by go_simp) ?_
          refine ((cP) _).mono ?_
          rintro e wk14 ⟨rfl, hk14⟩
          refine ⟨_, rfl, ?_⟩
          have hp1_8_14 := (hp1_8_13).gr hk14
          have hp1_9_14 := (hp1_9_13).gr hk14
          have hF_14 := (hF_13).then hk14
          simp only [Act.put, zs, z0, z1]
          refine sF rfl ?_
          refine wM (v := .tuple #[.agg (bv P1), .agg (bv P2), .bool true, .int .i64 0]) rfl rfl ?_
          simp only [Act.put, zs, z0, z1]
          refine sF rfl ?_
          refine wp_extract (v := .agg (bv P1)) rfl rfl rfl ?_
          simp only [Act.put, zs, z0, z1]
          refine sF rfl ?_
          refine wp_extract (v := .agg (bv P2)) rfl rfl rfl ?_
          simp only [Act.put, zs, z0, z1]
          refine sF rfl ?_
          refine wp_extract (v := .bool true) rfl rfl rfl ?_
          simp only [Act.put, zs, z0, z1]
          refine sF rfl ?_
          refine wp_extract (v := .int .i64 0) rfl rfl rfl ?_
          simp only [Act.put, zs, z0, z1]
          refine sF rfl ?_
          refine wp_allocB rfl ?_
          intro ws15 hn15 hg15
          obtain ⟨PN15, hb15⟩ : ∃ b, wk14.heap.size = b := ⟨_, rfl⟩
          rw [hb15] at hn15 ⊢
          have hge15 := Nat.le_trans (hF_14).size (Nat.le_of_eq hb15)
          have hnep1_8_PN15 : p1_8 ≠ PN15 := Nat.ne_of_lt (Nat.lt_of_lt_of_le (hp1_8_14).lt (Nat.le_of_eq hb15))
          have hnep1_9_PN15 : p1_9 ≠ PN15 := Nat.ne_of_lt (Nat.lt_of_lt_of_le (hp1_9_14).lt (Nat.le_of_eq hb15))
          have hp1_8_15 := (hp1_8_14).gr hg15
          have hp1_9_15 := (hp1_9_14).gr hg15
          have hF_15 := (hF_14).then hg15
          simp only [Act.put, zs, z0, z1]
          refine sF rfl ?_
          refine wp_allocB rfl ?_
          intro ws16 hn16 hg16
          obtain ⟨PN16, hb16⟩ : ∃ b, ws15.heap.size = b := ⟨_, rfl⟩
          rw [hb16] at hn16 ⊢
          have hge16 := Nat.le_trans (hF_15).size (Nat.le_of_eq hb16)
          have hnep1_8_PN16 : p1_8 ≠ PN16 := Nat.ne_of_lt (Nat.lt_of_lt_of_le (hp1_8_15).lt (Nat.le_of_eq hb16))
          have hnep1_9_PN16 : p1_9 ≠ PN16 := Nat.ne_of_lt (Nat.lt_of_lt_of_le (hp1_9_15).lt (Nat.le_of_eq hb16))
          have hnePN15_PN16 : PN15 ≠ PN16 := Nat.ne_of_lt (Nat.lt_of_lt_of_le (hn15).lt (Nat.le_of_eq hb16))
          have hp1_8_16 := (hp1_8_15).gr hg16
          have hp1_9_16 := (hp1_9_15).gr hg16
          have hPN15_16 := (hn15).gr hg16
          have hF_16 := (hF_15).then hg16
          simp only [Act.put, zs, z0, z1]
          refine sF rfl ?_
          refine wp_storeB rfl rfl rfl (hPN15_16) ?_
          intro ws17 hs17 gx17
          have hp1_8_17 := (hp1_8_16).grx gx17 hnep1_8_PN15
          have hp1_9_17 := (hp1_9_16).grx gx17 hnep1_9_PN15
          have hPN16_17 := (hn16).grx gx17 (Ne.symm hnePN15_PN16)
          have hF_17 := (hF_16).thenx gx17 (.inr hge15)
          change AtA ws17 PN15 (bv P1) 30 at hs17
          simp only [Act.put, zs, z0, z1]
          refine sF rfl ?_
          refine wp_storeB rfl rfl rfl (hPN16_17) ?_
          intro ws18 hs18 gx18
          have hp1_8_18 := (hp1_8_17).grx gx18 hnep1_8_PN16
          have hp1_9_18 := (hp1_9_17).grx gx18 hnep1_9_PN16
          have hPN15_18 := (hs17).grx gx18 hnePN15_PN16
          have hF_18 := (hF_17).thenx gx18 (.inr hge16)
          change AtA ws18 PN16 (bv P2) 30 at hs18
          simp only [Act.put, zs, z0, z1]
          refine sF rfl ?_
          refine wA (v := .bool true) rfl rfl ?_
          simp only [Act.put, zs, z0, z1]
          refine sF rfl ?_
          refine wA (v := .int .i64 0) rfl rfl ?_
          simp only [Act.put, zs, z0, z1]
          refine s_end ?_
          go_upto_region 7 with fail
          refine rG ?_
          refine sF rfl ?_
          refine wM (v := .int .u8 d2) rfl rfl ?_
          simp only [Act.put, zs, z0, z1]
          refine sF rfl ?_
          refine wM (v := .bool wd) rfl rfl ?_
          simp only [Act.put, zs, z0, z1]
          refine sF rfl ?_
          refine wM (v := .bool so) rfl rfl ?_
          simp only [Act.put, zs, z0, z1]
          refine sF rfl ?_
          refine wp_loadB rfl rfl (hp1_9_18) ?_
          simp only [Act.put, zs, z0, z1]
          refine sF rfl ?_
          refine wp_loadB rfl rfl (hp1_8_18) ?_
          simp only [Act.put, zs, z0, z1]
          refine sF rfl ?_
          refine wp_call5 rfl rfl rfl rfl rfl rfl (by go_simp) ?_
          refine ((cQ) _).mono ?_
          rintro e wk19 ⟨rfl, hk19⟩
          refine ⟨_, rfl, ?_⟩
          have hp1_8_19 := (hp1_8_18).gr hk19
          have hp1_9_19 := (hp1_9_18).gr hk19
          have hPN15_19 := (hPN15_18).gr hk19
          have hPN16_19 := (hs18).gr hk19
          have hF_19 := (hF_18).then hk19
          simp only [Act.put, zs, z0, z1]
          refine sF rfl ?_
          refine wM (v := .tuple #[.agg (bv P2), .agg (bv P1), .bool true, .int .i64 0]) rfl rfl ?_
          simp only [Act.put, zs, z0, z1]
          refine sF rfl ?_
          refine wp_extract (v := .agg (bv P2)) rfl rfl rfl ?_
          simp only [Act.put, zs, z0, z1]
          refine sF rfl ?_
          refine wp_extract (v := .agg (bv P1)) rfl rfl rfl ?_
          simp only [Act.put, zs, z0, z1]
          refine sF rfl ?_
          refine wp_extract (v := .bool true) rfl rfl rfl ?_
          simp only [Act.put, zs, z0, z1]
          refine sF rfl ?_
          refine wp_extract (v := .int .i64 0) rfl rfl rfl ?_
          simp only [Act.put, zs, z0, z1]
          refine sF rfl ?_
          refine wp_allocB rfl ?_
          intro ws20 hn20 hg20
          obtain ⟨PN20, hb20⟩ : ∃ b, wk19.heap.size = b := ⟨_, rfl⟩
          rw [hb20] at hn20 ⊢
          have hge20 := Nat.le_trans (hF_19).size (Nat.le_of_eq hb20)
          have hnep1_8_PN20 : p1_8 ≠ PN20 := Nat.ne_of_lt (Nat.lt_of_lt_of_le (hp1_8_19).lt (Nat.le_of_eq hb20))
          have hnep1_9_PN20 : p1_9 ≠ PN20 := Nat.ne_of_lt (Nat.lt_of_lt_of_le (hp1_9_19).lt (Nat.le_of_eq hb20))
          have hnePN15_PN20 : PN15 ≠ PN20 := Nat.ne_of_lt (Nat.lt_of_lt_of_le (hPN15_19).lt (Nat.le_of_eq hb20))
          have hnePN16_PN20 : PN16 ≠ PN20 := Nat.ne_of_lt (Nat.lt_of_lt_of_le (hPN16_19).lt (Nat.le_of_eq hb20))
          have hp1_8_20 := (hp1_8_19).gr hg20
          have hp1_9_20 := (hp1_9_19).gr hg20
          have hPN15_20 := (hPN15_19).gr hg20
          have hPN16_20 := (hPN16_19).gr hg20
          have hF_20 := (hF_19).then hg20
          simp only [Act.put, zs, z0, z1]
          refine sF rfl ?_
          refine wp_allocB rfl ?_
          intro ws21 hn21 hg21
          obtain ⟨PN21, hb21⟩ : ∃ b, ws20.heap.size = b := ⟨_, rfl⟩
          rw [hb21] at hn21 ⊢
          have hge21 := Nat.le_trans (hF_20).size (Nat.le_of_eq hb21)
          have hnep1_8_PN21 : p1_8 ≠ PN21 := Nat.ne_of_lt (Nat.lt_of_lt_of_le (hp1_8_20).lt (Nat.le_of_eq hb21))
          have hnep1_9_PN21 : p1_9 ≠ PN21 := Nat.ne_of_lt (Nat.lt_of_lt_of_le (hp1_9_20).lt (Nat.le_of_eq hb21))
          have hnePN15_PN21 : PN15 ≠ PN21 := Nat.ne_of_lt (Nat.lt_of_lt_of_le (hPN15_20).lt (Nat.le_of_eq hb21))
          have hnePN16_PN21 : PN16 ≠ PN21 := Nat.ne_of_lt (Nat.lt_of_lt_of_le (hPN16_20).lt (Nat.le_of_eq hb21))
          have hnePN20_PN21 : PN20 ≠ PN21 := Nat.ne_of_lt (Nat.lt_of_lt_of_le (hn20).lt (Nat.le_of_eq hb21))
          have hp1_8_21 := (hp1_8_20).gr hg21
          have hp1_9_21 := (hp1_9_20).gr hg21
          have hPN15_21 := (hPN15_20).gr hg21
          have hPN16_21 := (hPN16_20).gr hg21
          have hPN20_21 := (hn20).gr hg21
          have hF_21 := (hF_20).then hg21
          simp only [Act.put, zs, z0, z1]
          refine sF rfl ?_
          refine wp_storeB rfl rfl rfl (hPN20_21) ?_
          intro ws22 hs22 gx22
          have hp1_8_22 := (hp1_8_21).grx gx22 hnep1_8_PN20
          have hp1_9_22 := (hp1_9_21).grx gx22 hnep1_9_PN20
          have hPN15_22 := (hPN15_21).grx gx22 hnePN15_PN20
          have hPN16_22 := (hPN16_21).grx gx22 hnePN16_PN20
          have hPN21_22 := (hn21).grx gx22 (Ne.symm hnePN20_PN21)
          have hF_22 := (hF_21).thenx gx22 (.inr hge20)
          change AtA ws22 PN20 (bv P2) 30 at hs22
          simp only [Act.put, zs, z0, z1]
          refine sF rfl ?_
          refine wp_storeB rfl rfl rfl (hPN21_22) ?_
          intro ws23 hs23 gx23
          have hp1_8_23 := (hp1_8_22).grx gx23 hnep1_8_PN21
          have hp1_9_23 := (hp1_9_22).grx gx23 hnep1_9_PN21
          have hPN15_23 := (hPN15_22).grx gx23 hnePN15_PN21
          have hPN16_23 := (hPN16_22).grx gx23 hnePN16_PN21
          have hPN20_23 := (hs22).grx gx23 hnePN20_PN21
          have hF_23 := (hF_22).thenx gx23 (.inr hge21)
          change AtA ws23 PN21 (bv P1) 30 at hs23
          simp only [Act.put, zs, z0, z1]
          refine sF rfl ?_
          refine wA (v := .bool true) rfl rfl ?_
          simp only [Act.put, zs, z0, z1]
          refine sF rfl ?_
          refine wA (v := .int .i64 0) rfl rfl ?_
          simp only [Act.put, zs, z0, z1]
          refine s_end ?_
          go_upto_region 8 with fail
          refine rG ?_
          refine sF rfl ?_
          refine wM (v := .int .u8 d) rfl rfl ?_
          simp only [Act.put, zs, z0, z1]
          refine sF rfl ?_
          refine wp_call1 rfl rfl (by go_simp) ?_
          refine ((cX) _).mono ?_
          rintro e wk24 ⟨rfl, hk24⟩
          refine ⟨_, rfl, ?_⟩
          have hp1_8_24 := (hp1_8_23).gr hk24
          have hp1_9_24 := (hp1_9_23).gr hk24
          have hPN15_24 := (hPN15_23).gr hk24
          have hPN16_24 := (hPN16_23).gr hk24
          have hPN20_24 := (hPN20_23).gr hk24
          have hPN21_24 := (hs23).gr hk24
          have hF_24 := (hF_23).then hk24
          simp only [Act.put, zs, z0, z1]
          refine sF rfl ?_
          refine wM (v := .tuple #[.int .u8 d3, .bool true]) rfl rfl ?_
          simp only [Act.put, zs, z0, z1]
          refine sF rfl ?_
          refine wp_extract (v := .int .u8 d3) rfl rfl rfl ?_
          simp only [Act.put, zs, z0, z1]
          refine sF rfl ?_
          refine wp_extract (v := .bool true) rfl rfl rfl ?_
          simp only [Act.put, zs, z0, z1]
          refine sF rfl ?_
          refine wA (v := .int .u8 d3) rfl rfl ?_
          simp only [Act.put, zs, z0, z1]
          refine sF rfl ?_
          refine wA (v := .bool true) rfl rfl ?_
          simp only [Act.put, zs, z0, z1]
          refine s_end ?_
          go_upto_region 9 with fail
          refine rG ?_
          refine sF rfl ?_
          refine wM (v := .int .u8 d3) rfl rfl ?_
          simp only [Act.put, zs, z0, z1]
          refine sF rfl ?_
          refine wM (v := .bool wd) rfl rfl ?_
          simp only [Act.put, zs, z0, z1]
          refine sF rfl ?_
          refine wM (v := .bool so) rfl rfl ?_
          simp only [Act.put, zs, z0, z1]
          refine sF rfl ?_
          refine wp_notV (b := so) rfl rfl ?_
          simp only [Act.put, zs, z0, z1]
          refine sF rfl ?_
          refine wp_loadB rfl rfl (hp1_8_24) ?_
          simp only [Act.put, zs, z0, z1]
          refine sF rfl ?_
          refine wp_loadB rfl rfl (hp1_9_24) ?_
          simp only [Act.put, zs, z0, z1]
          refine sF rfl ?_
          refine wp_call5 rfl rfl rfl rfl rfl rfl (by go_simp) ?_
          refine ((cU) _).mono ?_
          rintro e wk25 ⟨rfl, hk25⟩
          refine ⟨_, rfl, ?_⟩
          have hp1_8_25 := (hp1_8_24).gr hk25
          have hp1_9_25 := (hp1_9_24).gr hk25
          have hPN15_25 := (hPN15_24).gr hk25
          have hPN16_25 := (hPN16_24).gr hk25
          have hPN20_25 := (hPN20_24).gr hk25
          have hPN21_25 := (hPN21_24).gr hk25
          have hF_25 := (hF_24).then hk25
          simp only [Act.put, zs, z0, z1]
          refine sF rfl ?_
          refine wM (v := .tuple #[.agg (bv P1), .agg (bv P2), .bool true, .int .i64 0]) rfl rfl ?_
          simp only [Act.put, zs, z0, z1]
          refine sF rfl ?_
          refine wp_extract (v := .agg (bv P1)) rfl rfl rfl ?_
          simp only [Act.put, zs, z0, z1]
          refine sF rfl ?_
          refine wp_extract (v := .agg (bv P2)) rfl rfl rfl ?_
          simp only [Act.put, zs, z0, z1]
          refine sF rfl ?_
          refine wp_extract (v := .bool true) rfl rfl rfl ?_
          simp only [Act.put, zs, z0, z1]
          refine sF rfl ?_
          refine wp_extract (v := .int .i64 0) rfl rfl rfl ?_
          simp only [Act.put, zs, z0, z1]
          refine sF rfl ?_
          refine wp_allocB rfl ?_
          intro ws26 hn26 hg26
          obtain ⟨PN26, hb26⟩ : ∃ b, wk25.heap.size = b := ⟨_, rfl⟩
          rw [hb26] at hn26 ⊢
          have hge26 := Nat.le_trans (hF_25).size (Nat.le_of_eq hb26)
          have hnep1_8_PN26 : p1_8 ≠ PN26 := Nat.ne_of_lt (Nat.lt_of_lt_of_le (hp1_8_25).lt (Nat.le_of_eq hb26))
          have hnep1_9_PN26 : p1_9 ≠ PN26 := Nat.ne_of_lt (Nat.lt_of_lt_of_le (hp1_9_25).lt (Nat.le_of_eq hb26))
          have hnePN15_PN26 : PN15 ≠ PN26 := Nat.ne_of_lt (Nat.lt_of_lt_of_le (hPN15_25).lt (Nat.le_of_eq hb26))
          have hnePN16_PN26 : PN16 ≠ PN26 := Nat.ne_of_lt (Nat.lt_of_lt_of_le (hPN16_25).lt (Nat.le_of_eq hb26))
          have hnePN20_PN26 : PN20 ≠ PN26 := Nat.ne_of_lt (Nat.lt_of_lt_of_le (hPN20_25).lt (Nat.le_of_eq hb26))
          have hnePN21_PN26 : PN21 ≠ PN26 := Nat.ne_of_lt (Nat.lt_of_lt_of_le (hPN21_25).lt (Nat.le_of_eq hb26))
          have hp1_8_26 := (hp1_8_25).gr hg26
          have hp1_9_26 := (hp1_9_25).gr hg26
          have hPN15_26 := (hPN15_25).gr hg26
          have hPN16_26 := (hPN16_25).gr hg26
          have hPN20_26 := (hPN20_25).gr hg26
          have hPN21_26 := (hPN21_25).gr hg26
          have hF_26 := (hF_25).then hg26
          simp only [Act.put, zs, z0, z1]
          refine sF rfl ?_
          refine wp_allocB rfl ?_
          intro ws27 hn27 hg27
          obtain ⟨PN27, hb27⟩ : ∃ b, ws26.heap.size = b := ⟨_, rfl⟩
          rw [hb27] at hn27 ⊢
          have hge27 := Nat.le_trans (hF_26).size (Nat.le_of_eq hb27)
          have hnep1_8_PN27 : p1_8 ≠ PN27 := Nat.ne_of_lt (Nat.lt_of_lt_of_le (hp1_8_26).lt (Nat.le_of_eq hb27))
          have hnep1_9_PN27 : p1_9 ≠ PN27 := Nat.ne_of_lt (Nat.lt_of_lt_of_le (hp1_9_26).lt (Nat.le_of_eq hb27))
          have hnePN15_PN27 : PN15 ≠ PN27 := Nat.ne_of_lt (Nat.lt_of_lt_of_le (hPN15_26).lt (Nat.le_of_eq hb27))
          have hnePN16_PN27 : PN16 ≠ PN27 := Nat.ne_of_lt (Nat.lt_of_lt_of_le (hPN16_26).lt (Nat.le_of_eq hb27))
          have hnePN20_PN27 : PN20 ≠ PN27 := Nat.ne_of_lt (Nat.lt_of_lt_of_le (hPN20_26).lt (Nat.le_of_eq hb27))
          have hnePN21_PN27 : PN21 ≠ PN27 := Nat.ne_of_lt (Nat.lt_of_lt_of_le (hPN21_26).lt (Nat.le_of_eq hb27))
          have hnePN26_PN27 : PN26 ≠ PN27 := Nat.ne_of_lt (Nat.lt_of_lt_of_le (hn26).lt (Nat.le_of_eq hb27))
          have hp1_8_27 := (hp1_8_26).gr hg27
          have hp1_9_27 := (hp1_9_26).gr hg27
          have hPN15_27 := (hPN15_26).gr hg27
          have hPN16_27 := (hPN16_26).gr hg27
          have hPN20_27 := (hPN20_26).gr hg27
          have hPN21_27 := (hPN21_26).gr hg27
          have hPN26_27 := (hn26).gr hg27
          have hF_27 := (hF_26).then hg27
          simp only [Act.put, zs, z0, z1]
          refine sF rfl ?_
          refine wp_storeB rfl rfl rfl (hPN26_27) ?_
          intro ws28 hs28 gx28
          have hp1_8_28 := (hp1_8_27).grx gx28 hnep1_8_PN26
          have hp1_9_28 := (hp1_9_27).grx gx28 hnep1_9_PN26
          have hPN15_28 := (hPN15_27).grx gx28 hnePN15_PN26
          have hPN16_28 := (hPN16_27).grx gx28 hnePN16_PN26
          have hPN20_28 := (hPN20_27).grx gx28 hnePN20_PN26
          have hPN21_28 := (hPN21_27).grx gx28 hnePN21_PN26
          have hPN27_28 := (hn27).grx gx28 (Ne.symm hnePN26_PN27)
          have hF_28 := (hF_27).thenx gx28 (.inr hge26)
          change AtA ws28 PN26 (bv P1) 30 at hs28
          simp only [Act.put, zs, z0, z1]
          refine sF rfl ?_
          refine wp_storeB rfl rfl rfl (hPN27_28) ?_
          intro ws29 hs29 gx29
          have hp1_8_29 := (hp1_8_28).grx gx29 hnep1_8_PN27
          have hp1_9_29 := (hp1_9_28).grx gx29 hnep1_9_PN27
          have hPN15_29 := (hPN15_28).grx gx29 hnePN15_PN27
          have hPN16_29 := (hPN16_28).grx gx29 hnePN16_PN27
          have hPN20_29 := (hPN20_28).grx gx29 hnePN20_PN27
          have hPN21_29 := (hPN21_28).grx gx29 hnePN21_PN27
          have hPN26_29 := (hs28).grx gx29 hnePN26_PN27
          have hF_29 := (hF_28).thenx gx29 (.inr hge27)
          change AtA ws29 PN27 (bv P2) 30 at hs29
          simp only [Act.put, zs, z0, z1]
          refine sF rfl ?_
          refine wA (v := .bool true) rfl rfl ?_
          simp only [Act.put, zs, z0, z1]
          refine sF rfl ?_
          refine wA (v := .int .i64 0) rfl rfl ?_
          simp only [Act.put, zs, z0, z1]
          refine s_end ?_
          go_upto_region 10 with fail
          refine rG ?_
          refine sF rfl ?_
          refine wM (v := .int .i64 0) rfl rfl ?_
          simp only [Act.put, zs, z0, z1]
          refine sF rfl ?_
          refine wp_neK rfl rfl ?_
          simp only [Act.put, zs, z0, z1]
          refine sF rfl ?_
          refine wM (v := .bool false) rfl rfl ?_
          simp only [Act.put, zs, z0, z1]
          refine s_do (by rfl) ?_
          refine wM (v := .int .i64 0) rfl rfl ?_
          simp only [Act.put, zs, z0, z1]
          refine s_do (by rfl) ?_
          refine wp_neK rfl rfl ?_
          simp only [Act.put, zs, z0, z1]
          refine sF rfl ?_
          refine wp_pickF (v := .bool false) rfl rfl rfl ?_
          simp only [Act.put, zs, z0, z1]
          refine sF rfl ?_
          refine wM (v := .bool false) rfl rfl ?_
          simp only [Act.put, zs, z0, z1]
          refine s_do (by rfl) ?_
          refine wp_loadB rfl rfl (hPN15_29) ?_
          simp only [Act.put, zs, z0, z1]
          refine s_do (by rfl) ?_
          refine wp_loadB rfl rfl (hPN21_29) ?_
          simp only [Act.put, zs, z0, z1]
          refine s_do (by rfl) ?_
          refine wp_neKS (d := P1) rfl rfl rfl ?_
          simp only [Act.put, zs, z0, z1]
          refine sF rfl ?_
          refine wp_pickF (v := .bool false) rfl rfl rfl ?_
          simp only [Act.put, zs, z0, z1]
          refine sF rfl ?_
          refine wM (v := .bool false) rfl rfl ?_
          simp only [Act.put, zs, z0, z1]
          refine s_do (by rfl) ?_
          refine wp_loadB rfl rfl (hPN16_29) ?_
          simp only [Act.put, zs, z0, z1]
          refine s_do (by rfl) ?_
          refine wp_loadB rfl rfl (hPN20_29) ?_
          simp only [Act.put, zs, z0, z1]
          refine s_do (by rfl) ?_
          refine wp_neKS (d := P2) rfl rfl rfl ?_
          simp only [Act.put, zs, z0, z1]
          refine sF rfl ?_
          refine wp_pickF (v := .bool false) rfl rfl rfl ?_
          simp only [Act.put, zs, z0, z1]
          refine sF rfl ?_
          refine wM (v := .bool false) rfl rfl ?_
          simp only [Act.put, zs, z0, z1]
          refine s_do (by rfl) ?_
          refine wM (v := .bool true) rfl rfl ?_
          simp only [Act.put, zs, z0, z1]
          refine s_do (by rfl) ?_
          refine wM (v := .bool true) rfl rfl ?_
          simp only [Act.put, zs, z0, z1]
          refine s_do (by rfl) ?_
          refine wp_neKB_t rfl rfl rfl ?_
          simp only [Act.put, zs, z0, z1]
          refine sF rfl ?_
          refine wp_pickF (v := .bool false) rfl rfl rfl ?_
          simp only [Act.put, zs, z0, z1]
          refine s_end ?_
          go_upto_region 12 with fail
          refine rG ?_
          refine sF rfl ?_
          refine wM (v := .bool true) rfl rfl ?_
          simp only [Act.put, zs, z0, z1]
          refine sF rfl ?_
          refine wp_notT rfl rfl ?_
          simp only [Act.put, zs, z0, z1]
          refine sF rfl ?_
          refine wM (v := .bool false) rfl rfl ?_
          simp only [Act.put, zs, z0, z1]
          refine s_do (by rfl) ?_
          refine wM (v := .int .i64 0) rfl rfl ?_
          simp only [Act.put, zs, z0, z1]
          refine s_do (by rfl) ?_
          refine wp_eqK rfl rfl ?_
          simp only [Act.put, zs, z0, z1]
          refine s_do (by rfl) ?_
          refine wM (v := .bool true) rfl rfl ?_
          simp only [Act.put, zs, z0, z1]
          refine s_do (by rfl) ?_
          refine wp_loadB rfl rfl (hPN26_29) ?_
          simp only [Act.put, zs, z0, z1]
          refine s_do (by rfl) ?_
          refine wp_loadB rfl rfl (hPN15_29) ?_
          simp only [Act.put, zs, z0, z1]
          refine s_do (by rfl) ?_
          refine wp_eqKS (d := P1) rfl rfl rfl ?_
          simp only [Act.put, zs, z0, z1]
          refine s_do (by rfl) ?_
          refine wp_pickT (v := .bool true) rfl rfl rfl ?_
          simp only [Act.put, zs, z0, z1]
          refine s_do (by rfl) ?_
          refine wM (v := .bool true) rfl rfl ?_
          simp only [Act.put, zs, z0, z1]
          refine s_do (by rfl) ?_
          refine wp_loadB rfl rfl (hs29) ?_
          simp only [Act.put, zs, z0, z1]
          refine s_do (by rfl) ?_
          refine wp_loadB rfl rfl (hPN16_29) ?_
          simp only [Act.put, zs, z0, z1]
          refine s_do (by rfl) ?_
          refine wp_eqKS (d := P2) rfl rfl rfl ?_
          simp only [Act.put, zs, z0, z1]
          refine s_do (by rfl) ?_
          refine wp_pickT (v := .bool true) rfl rfl rfl ?_
          simp only [Act.put, zs, z0, z1]
          refine s_do (by rfl) ?_
          refine wM (v := .bool true) rfl rfl ?_
          simp only [Act.put, zs, z0, z1]
          refine s_do (by rfl) ?_
          refine wM (v := .bool true) rfl rfl ?_
          simp only [Act.put, zs, z0, z1]
          refine s_do (by rfl) ?_
          refine wM (v := .bool true) rfl rfl ?_
          simp only [Act.put, zs, z0, z1]
          refine s_do (by rfl) ?_
          refine wp_eqKB_t rfl rfl rfl ?_
          simp only [Act.put, zs, z0, z1]
          refine s_do (by rfl) ?_
          refine wp_pickT (v := .bool true) rfl rfl rfl ?_
          simp only [Act.put, zs, z0, z1]
          refine sF rfl ?_
          refine wp_pickF (v := .bool true) rfl rfl rfl ?_
          simp only [Act.put, zs, z0, z1]
          refine sF rfl ?_
          refine wM (v := .bool true) rfl rfl ?_
          simp only [Act.put, zs, z0, z1]
          refine s_do (by rfl) ?_
          refine wp_call0 rfl (by go_simp) ?_
          refine ((k_works) _).mono ?_
          rintro e wk30 ⟨rfl, hk30⟩
          refine ⟨_, rfl, ?_⟩
          have hp1_8_30 := (hp1_8_29).gr hk30
          have hp1_9_30 := (hp1_9_29).gr hk30
          have hPN15_30 := (hPN15_29).gr hk30
          have hPN16_30 := (hPN16_29).gr hk30
          have hPN20_30 := (hPN20_29).gr hk30
          have hPN21_30 := (hPN21_29).gr hk30
          have hPN26_30 := (hPN26_29).gr hk30
          have hPN27_30 := (hs29).gr hk30
          have hF_30 := (hF_29).then hk30
          simp only [Act.put, zs, z0, z1]
          refine sF rfl ?_
          refine wp_pickT (v := .bool true) rfl rfl rfl ?_
          simp only [Act.put, zs, z0, z1]
          refine sF rfl ?_
          refine wA (v := .bool true) rfl rfl ?_
          simp only [Act.put, zs, z0, z1]
          refine s_end ?_
          go_wp2
          go_ret
          exact ⟨rfl, (hF_30).gr0⟩
end Go.Proofs.YtcbcijibgpaipaaGreat
