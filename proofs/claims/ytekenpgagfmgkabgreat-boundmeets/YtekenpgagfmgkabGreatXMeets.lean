/- Towards the statements of package bound (layer 5): BoundMeets, walked. -/
import Derived.Test.YtekenpgagfmgkabGreatQL
import Derived.Deep.DeepCutAuto
namespace Go.Proofs.YtekenpgagfmgkabGreat
open Go.ChangeShapes Go.WideShapes Go.ChangeAt Go.RowKit
open Tn (iv)
set_option linter.unusedVariables false
set_option linter.unusedSimpArgs false
set_option maxRecDepth 20000

theorem sgl (z : Int) : -2147483648 ≤ sg z ∧ sg z ≤ 2147483647 := by
  unfold sg
  omega
theorem w64l (z : Int) : -9223372036854775808 ≤ wrap64 z ∧ wrap64 z ≤ 9223372036854775807 := by
  unfold wrap64
  omega
theorem good_const (z : BitVec 64) : Good (constM z) := by
  have hi := iv_range z
  have hs := sgl (iv z)
  have hw := w64l (iv z)
  refine ⟨?_, hi.1, Int.le_refl _, hi.2, hw.1, Int.le_refl _, hw.2, ?_, Int.le_refl _, ?_, hs.1, Int.le_refl _, hs.2⟩
  · show z &&& 0#64 = 0#64
    ext i hi
    simp
  · show 0 ≤ iv z % 4294967296
    omega
  · show iv z % 4294967296 ≤ 4294967295
    omega
set_option maxHeartbeats 8000000 in
theorem meets_law (u v t : Ab) (hu : AbOk u) (hv : AbOk v) (ht : AbOk t) (x : BitVec 64) (w : World) : Calls Tryz.prog 3 #[.int .u64 (iv x), .agg #[.int .u64 (iv u.ma), .int .u64 u.dn, .int .u64 u.up, .int .u64 u.ls, .int .u64 u.mo, .int .u32 u.hf, .int .u32 u.tp], .agg #[.int .u64 (iv v.ma), .int .u64 v.dn, .int .u64 v.up, .int .u64 v.ls, .int .u64 v.mo, .int .u32 v.hf, .int .u32 v.tp], .agg #[.int .u64 (iv t.ma), .int .u64 t.dn, .int .u64 t.up, .int .u64 t.ls, .int .u64 t.mo, .int .u32 t.hf, .int .u32 t.tp]] w fun e w' => e = .returned (.bool true) ∧ Gr w w' := by
  go_enter Tryz.func3, Tryz.ntmps3
  go_upto_region 1 with fail
  have HA : AtA (((w.alloc (.cells #[.int .u64 (iv u.ma), .int .u64 u.dn, .int .u64 u.up, .int .u64 u.ls, .int .u64 u.mo, .int .u32 u.hf, .int .u32 u.tp] 25)).alloc (.cells #[.int .u64 (iv v.ma), .int .u64 v.dn, .int .u64 v.up, .int .u64 v.ls, .int .u64 v.mo, .int .u32 v.hf, .int .u32 v.tp] 25)).alloc (.cells #[.int .u64 (iv t.ma), .int .u64 t.dn, .int .u64 t.up, .int .u64 t.ls, .int .u64 t.mo, .int .u32 t.hf, .int .u32 t.tp] 25)) w.heap.size (av u) 25 := ((AtA.newb _ rfl _ _).alloc _).alloc _
  have HB : AtA (((w.alloc (.cells #[.int .u64 (iv u.ma), .int .u64 u.dn, .int .u64 u.up, .int .u64 u.ls, .int .u64 u.mo, .int .u32 u.hf, .int .u32 u.tp] 25)).alloc (.cells #[.int .u64 (iv v.ma), .int .u64 v.dn, .int .u64 v.up, .int .u64 v.ls, .int .u64 v.mo, .int .u32 v.hf, .int .u32 v.tp] 25)).alloc (.cells #[.int .u64 (iv t.ma), .int .u64 t.dn, .int .u64 t.up, .int .u64 t.ls, .int .u64 t.mo, .int .u32 t.hf, .int .u32 t.tp] 25)) (w.heap.size + 1) (av v) 25 := (AtA.newb _ (by simp) _ _).alloc _
  have HC : AtA (((w.alloc (.cells #[.int .u64 (iv u.ma), .int .u64 u.dn, .int .u64 u.up, .int .u64 u.ls, .int .u64 u.mo, .int .u32 u.hf, .int .u32 u.tp] 25)).alloc (.cells #[.int .u64 (iv v.ma), .int .u64 v.dn, .int .u64 v.up, .int .u64 v.ls, .int .u64 v.mo, .int .u32 v.hf, .int .u32 v.tp] 25)).alloc (.cells #[.int .u64 (iv t.ma), .int .u64 t.dn, .int .u64 t.up, .int .u64 t.ls, .int .u64 t.mo, .int .u32 t.hf, .int .u32 t.tp] 25)) (w.heap.size + 1 + 1) (av t) 25 := AtA.newb _ (by simp) _ _
  have HF : Gr w (((w.alloc (.cells #[.int .u64 (iv u.ma), .int .u64 u.dn, .int .u64 u.up, .int .u64 u.ls, .int .u64 u.mo, .int .u32 u.hf, .int .u32 u.tp] 25)).alloc (.cells #[.int .u64 (iv v.ma), .int .u64 v.dn, .int .u64 v.up, .int .u64 v.ls, .int .u64 v.mo, .int .u32 v.hf, .int .u32 v.tp] 25)).alloc (.cells #[.int .u64 (iv t.ma), .int .u64 t.dn, .int .u64 t.up, .int .u64 t.ls, .int .u64 t.mo, .int .u32 t.hf, .int .u32 t.tp] 25)) := Gr.alloc (Gr.alloc (Gr.alloc (Gr.refl w) _ _) _ _) _ _
  revert HA HB HC HF
  generalize (((w.alloc (.cells #[.int .u64 (iv u.ma), .int .u64 u.dn, .int .u64 u.up, .int .u64 u.ls, .int .u64 u.mo, .int .u32 u.hf, .int .u32 u.tp] 25)).alloc (.cells #[.int .u64 (iv v.ma), .int .u64 v.dn, .int .u64 v.up, .int .u64 v.ls, .int .u64 v.mo, .int .u32 v.hf, .int .u32 v.tp] 25)).alloc (.cells #[.int .u64 (iv t.ma), .int .u64 t.dn, .int .u64 t.up, .int .u64 t.ls, .int .u64 t.mo, .int .u32 t.hf, .int .u32 t.tp] 25)) = W0
  generalize w.heap.size + 1 + 1 = XC
  generalize w.heap.size + 1 = XB
  generalize w.heap.size = XA
  intro HA HB HC HF
  go_cut [9, 10, 11] (fun c9 c10 c11 wx => ∃ (p1_12 : Nat) (p1_13 : Nat) (p1_14 : Nat) (B1_2 : Bd) (B1_6 : Bd) (B1_10 : Bd), c9 = .pointer (some ⟨p1_12, 0, none⟩) ∧ c10 = .pointer (some ⟨p1_13, 0, none⟩) ∧ c11 = .pointer (some ⟨p1_14, 0, none⟩) ∧ Good B1_2 ∧ Has B1_2 x ∧ Good B1_6 ∧ Has B1_6 x ∧ Good B1_10 ∧ Has B1_10 x ∧ AtA wx p1_12 (bv (syncM B1_2)) 33 ∧ AtA wx p1_13 (bv (syncM B1_6)) 33 ∧ AtA wx p1_14 (bv (syncM B1_10)) 33 ∧ p1_12 ≠ p1_13 ∧ p1_12 ≠ p1_14 ∧ p1_13 ≠ p1_14 ∧ Gr W0 wx)
  case first =>
    rename_i J K2 hJ hK2
    refine wp_region_inv (by kernel_rfl) (fun L a wx => ∃ (y14 y15 y16 y17 y18 y19 y20 y21 y22 y23 y24 y25 y9 y10 y11 : Value) (B1_2 : Bd) (B1_6 : Bd) (B1_10 : Bd) (p1_12 : Nat) (p1_13 : Nat) (p1_14 : Nat), a = ⟨(.int .u64 (iv x) :: .agg (av u) :: .agg (av v) :: .agg (av t) :: undef :: .pointer (some ⟨XA, 0, none⟩) :: .pointer (some ⟨XB, 0, none⟩) :: .pointer (some ⟨XC, 0, none⟩) :: .bool false :: y9 :: y10 :: y11 :: undef :: undef :: y14 :: y15 :: y16 :: y17 :: y18 :: y19 :: y20 :: y21 :: y22 :: y23 :: y24 :: y25 :: undef :: undef :: undef :: undef :: undef :: undef :: undef :: undef :: undef :: undef :: undef :: undef :: undef :: undef :: undef :: undef :: undef :: undef :: undef :: undef :: undef :: undef :: undef :: undef :: undef :: undef :: undef :: undef :: undef :: undef :: undef :: undef :: undef :: undef :: undef :: undef :: undef :: undef :: undef :: undef :: undef :: undef :: undef :: undef :: undef :: undef :: undef :: undef :: undef :: undef :: undef :: undef :: undef :: undef :: undef :: undef :: undef :: undef :: undef :: undef :: undef :: undef :: undef :: undef :: undef :: undef :: undef :: undef :: undef :: undef :: undef :: undef :: undef :: undef :: undef :: undef :: undef :: [] : List Value).toArray, []⟩ ∧ Gr W0 wx ∧ (L 0 = true → y14 = .agg (av u)) ∧ (L 1 = true → y15 = .int .u64 (iv x)) ∧ (L 2 = true → Good B1_2 ∧ Has B1_2 x ∧ y16 = .agg (bv B1_2)) ∧ (L 3 = true → L 2 = true ∧ y17 = .agg (bv (syncM B1_2))) ∧ (L 4 = true → y18 = .agg (av v)) ∧ (L 5 = true → y19 = .int .u64 (iv x)) ∧ (L 6 = true → Good B1_6 ∧ Has B1_6 x ∧ y20 = .agg (bv B1_6)) ∧ (L 7 = true → L 6 = true ∧ y21 = .agg (bv (syncM B1_6))) ∧ (L 8 = true → y22 = .agg (av t)) ∧ (L 9 = true → y23 = .int .u64 (iv x)) ∧ (L 10 = true → Good B1_10 ∧ Has B1_10 x ∧ y24 = .agg (bv B1_10)) ∧ (L 11 = true → L 10 = true ∧ y25 = .agg (bv (syncM B1_10))) ∧ (L 12 = true → y9 = .pointer (some ⟨p1_12, 0, none⟩) ∧ W0.heap.size ≤ p1_12 ∧ AtA wx p1_12 (bv (sel (L 15) (syncM B1_2) zeroM)) 33) ∧ (L 13 = true → y10 = .pointer (some ⟨p1_13, 0, none⟩) ∧ W0.heap.size ≤ p1_13 ∧ AtA wx p1_13 (bv (sel (L 16) (syncM B1_6) zeroM)) 33) ∧ (L 14 = true → y11 = .pointer (some ⟨p1_14, 0, none⟩) ∧ W0.heap.size ≤ p1_14 ∧ AtA wx p1_14 (bv (sel (L 17) (syncM B1_10) zeroM)) 33) ∧ (L 15 = true → L 3 = true ∧ L 12 = true) ∧ (L 16 = true → L 7 = true ∧ L 13 = true) ∧ (L 17 = true → L 11 = true ∧ L 14 = true) ∧ (L 12 = true → L 13 = true → p1_12 ≠ p1_13) ∧ (L 12 = true → L 14 = true → p1_12 ≠ p1_14) ∧ (L 13 = true → L 14 = true → p1_13 ≠ p1_14)) (by kernel_rfl) ?h0 ?step ?fin
    case h0 => exact ⟨undef, undef, undef, undef, undef, undef, undef, undef, undef, undef, undef, undef, undef, undef, undef, zeroM, zeroM, zeroM, 0, 0, 0, rfl, Gr.drew (Gr.refl _), (fun h => by cases h), (fun h => by cases h), (fun h => by cases h), (fun h => by cases h), (fun h => by cases h), (fun h => by cases h), (fun h => by cases h), (fun h => by cases h), (fun h => by cases h), (fun h => by cases h), (fun h => by cases h), (fun h => by cases h), (fun h => by cases h), (fun h => by cases h), (fun h => by cases h), (fun h => by cases h), (fun h => by cases h), (fun h => by cases h), (fun h => by cases h), (fun h => by cases h), (fun h => by cases h)⟩
    case step =>
      refine allOps_cons 0 ?_ ?_
      · refine keeps_free rfl ?_
        rintro L a wx hL hd ⟨y14, y15, y16, y17, y18, y19, y20, y21, y22, y23, y24, y25, y9, y10, y11, B1_2, B1_6, B1_10, p1_12, p1_13, p1_14, rfl, hG, f0, f1, f2, f3, f4, f5, f6, f7, f8, f9, f10, f11, f12, f13, f14, f15, f16, f17, g12_13, g12_14, g13_14⟩
        refine wp_loadA rfl rfl ((HA).gr hG) ?_
        exact ⟨.agg (av u), y15, y16, y17, y18, y19, y20, y21, y22, y23, y24, y25, y9, y10, y11, B1_2, B1_6, B1_10, p1_12, p1_13, p1_14, rfl, hG, fun _ => rfl, f1, f2, f3, f4, f5, f6, f7, f8, f9, f10, f11, f12, f13, f14, f15, f16, f17, g12_13, g12_14, g13_14⟩
      refine allOps_cons 1 ?_ ?_
      · refine keeps_free rfl ?_
        rintro L a wx hL hd ⟨y14, y15, y16, y17, y18, y19, y20, y21, y22, y23, y24, y25, y9, y10, y11, B1_2, B1_6, B1_10, p1_12, p1_13, p1_14, rfl, hG, f0, f1, f2, f3, f4, f5, f6, f7, f8, f9, f10, f11, f12, f13, f14, f15, f16, f17, g12_13, g12_14, g13_14⟩
        refine wp_move rfl rfl ?_
        exact ⟨y14, .int .u64 (iv x), y16, y17, y18, y19, y20, y21, y22, y23, y24, y25, y9, y10, y11, B1_2, B1_6, B1_10, p1_12, p1_13, p1_14, rfl, hG, f0, fun _ => rfl, f2, f3, f4, f5, f6, f7, f8, f9, f10, f11, f12, f13, f14, f15, f16, f17, g12_13, g12_14, g13_14⟩
      refine allOps_cons 2 ?_ ?_
      · refine keeps_free rfl ?_
        rintro L a wx hL hd ⟨y14, y15, y16, y17, y18, y19, y20, y21, y22, y23, y24, y25, y9, y10, y11, B1_2, B1_6, B1_10, p1_12, p1_13, p1_14, rfl, hG, f0, f1, f2, f3, f4, f5, f6, f7, f8, f9, f10, f11, f12, f13, f14, f15, f16, f17, g12_13, g12_14, g13_14⟩
        obtain ⟨e0, e1, -⟩ := hd
        have h0 := f0 (e0 rfl); subst h0
        have h1 := f1 (e1 rfl); subst h1
        have l3 : L 3 = false := by
          cases h : L 3 with
          | false => rfl
          | true => have := (f3 h).1; rw [hL] at this; cases this
        have l15 : L 15 = false := by
          cases h : L 15 with
          | false => rfl
          | true => have := (f15 h).1; rw [l3] at this; cases this
        refine wp_call2 rfl rfl rfl (by go_simp) ?_
        refine (k_of u hu x _).mono ?_
        rintro e w1 ⟨A, gA, kA, rfl, hg⟩
        refine ⟨_, rfl, ?_⟩
        exact ⟨_, _, _, y17, y18, y19, y20, y21, y22, y23, y24, y25, y9, y10, y11, A, B1_6, B1_10, p1_12, p1_13, p1_14, rfl, hG.trans hg, fun _ => rfl, fun _ => rfl, fun _ => ⟨gA, kA, rfl⟩, (fun h => absurd (show L 3 = true from h) (by rw [l3]; decide)), f4, f5, f6, f7, f8, f9, f10, f11, fun h => let ⟨z1, z2, z3⟩ := f12 h; ⟨z1, z2, by rw [l15] at z3; rw [show upd L 2 15 = false from l15]; exact z3.gr hg⟩, fun h => let ⟨z1, z2, z3⟩ := f13 h; ⟨z1, z2, z3.gr hg⟩, fun h => let ⟨z1, z2, z3⟩ := f14 h; ⟨z1, z2, z3.gr hg⟩, (fun h => absurd (show L 15 = true from h) (by rw [l15]; decide)), f16, f17, g12_13, g12_14, g13_14⟩
      refine allOps_cons 3 ?_ ?_
      · refine keeps_free rfl ?_
        rintro L a wx hL hd ⟨y14, y15, y16, y17, y18, y19, y20, y21, y22, y23, y24, y25, y9, y10, y11, B1_2, B1_6, B1_10, p1_12, p1_13, p1_14, rfl, hG, f0, f1, f2, f3, f4, f5, f6, f7, f8, f9, f10, f11, f12, f13, f14, f15, f16, f17, g12_13, g12_14, g13_14⟩
        obtain ⟨e0, e1, -⟩ := hd
        obtain ⟨y2_0, y2_1, h2⟩ := f2 (e0 rfl); subst h2
        have l15 : L 15 = false := by
          cases h : L 15 with
          | false => rfl
          | true => have := (f15 h).1; rw [hL] at this; cases this
        refine wp_call1 rfl rfl (by go_simp) ?_
        refine (k_sync B1_2 _ y2_0).mono ?_
        rintro e w1 ⟨rfl, hg⟩
        refine ⟨_, rfl, ?_⟩
        exact ⟨y14, y15, _, _, y18, y19, y20, y21, y22, y23, y24, y25, y9, y10, y11, B1_2, B1_6, B1_10, p1_12, p1_13, p1_14, rfl, hG.trans hg, f0, f1, fun _ => ⟨y2_0, y2_1, rfl⟩, fun _ => ⟨e0 rfl, rfl⟩, f4, f5, f6, f7, f8, f9, f10, f11, fun h => let ⟨z1, z2, z3⟩ := f12 h; ⟨z1, z2, by rw [l15] at z3; rw [show upd L 3 15 = false from l15]; exact z3.gr hg⟩, fun h => let ⟨z1, z2, z3⟩ := f13 h; ⟨z1, z2, z3.gr hg⟩, fun h => let ⟨z1, z2, z3⟩ := f14 h; ⟨z1, z2, z3.gr hg⟩, (fun h => absurd (show L 15 = true from h) (by rw [l15]; decide)), f16, f17, g12_13, g12_14, g13_14⟩
      refine allOps_cons 4 ?_ ?_
      · refine keeps_free rfl ?_
        rintro L a wx hL hd ⟨y14, y15, y16, y17, y18, y19, y20, y21, y22, y23, y24, y25, y9, y10, y11, B1_2, B1_6, B1_10, p1_12, p1_13, p1_14, rfl, hG, f0, f1, f2, f3, f4, f5, f6, f7, f8, f9, f10, f11, f12, f13, f14, f15, f16, f17, g12_13, g12_14, g13_14⟩
        refine wp_loadA rfl rfl ((HB).gr hG) ?_
        exact ⟨y14, y15, y16, y17, .agg (av v), y19, y20, y21, y22, y23, y24, y25, y9, y10, y11, B1_2, B1_6, B1_10, p1_12, p1_13, p1_14, rfl, hG, f0, f1, f2, f3, fun _ => rfl, f5, f6, f7, f8, f9, f10, f11, f12, f13, f14, f15, f16, f17, g12_13, g12_14, g13_14⟩
      refine allOps_cons 5 ?_ ?_
      · refine keeps_free rfl ?_
        rintro L a wx hL hd ⟨y14, y15, y16, y17, y18, y19, y20, y21, y22, y23, y24, y25, y9, y10, y11, B1_2, B1_6, B1_10, p1_12, p1_13, p1_14, rfl, hG, f0, f1, f2, f3, f4, f5, f6, f7, f8, f9, f10, f11, f12, f13, f14, f15, f16, f17, g12_13, g12_14, g13_14⟩
        refine wp_move rfl rfl ?_
        exact ⟨y14, y15, y16, y17, y18, .int .u64 (iv x), y20, y21, y22, y23, y24, y25, y9, y10, y11, B1_2, B1_6, B1_10, p1_12, p1_13, p1_14, rfl, hG, f0, f1, f2, f3, f4, fun _ => rfl, f6, f7, f8, f9, f10, f11, f12, f13, f14, f15, f16, f17, g12_13, g12_14, g13_14⟩
      refine allOps_cons 6 ?_ ?_
      · refine keeps_free rfl ?_
        rintro L a wx hL hd ⟨y14, y15, y16, y17, y18, y19, y20, y21, y22, y23, y24, y25, y9, y10, y11, B1_2, B1_6, B1_10, p1_12, p1_13, p1_14, rfl, hG, f0, f1, f2, f3, f4, f5, f6, f7, f8, f9, f10, f11, f12, f13, f14, f15, f16, f17, g12_13, g12_14, g13_14⟩
        obtain ⟨e0, e1, e2, -⟩ := hd
        have h4 := f4 (e0 rfl); subst h4
        have h5 := f5 (e1 rfl); subst h5
        have l7 : L 7 = false := by
          cases h : L 7 with
          | false => rfl
          | true => have := (f7 h).1; rw [hL] at this; cases this
        have l16 : L 16 = false := by
          cases h : L 16 with
          | false => rfl
          | true => have := (f16 h).1; rw [l7] at this; cases this
        refine wp_call2 rfl rfl rfl (by go_simp) ?_
        refine (k_of v hv x _).mono ?_
        rintro e w1 ⟨A, gA, kA, rfl, hg⟩
        refine ⟨_, rfl, ?_⟩
        exact ⟨y14, y15, y16, y17, _, _, _, y21, y22, y23, y24, y25, y9, y10, y11, B1_2, A, B1_10, p1_12, p1_13, p1_14, rfl, hG.trans hg, f0, f1, f2, f3, fun _ => rfl, fun _ => rfl, fun _ => ⟨gA, kA, rfl⟩, (fun h => absurd (show L 7 = true from h) (by rw [l7]; decide)), f8, f9, f10, f11, fun h => let ⟨z1, z2, z3⟩ := f12 h; ⟨z1, z2, z3.gr hg⟩, fun h => let ⟨z1, z2, z3⟩ := f13 h; ⟨z1, z2, by rw [l16] at z3; rw [show upd L 6 16 = false from l16]; exact z3.gr hg⟩, fun h => let ⟨z1, z2, z3⟩ := f14 h; ⟨z1, z2, z3.gr hg⟩, f15, (fun h => absurd (show L 16 = true from h) (by rw [l16]; decide)), f17, g12_13, g12_14, g13_14⟩
      refine allOps_cons 7 ?_ ?_
      · refine keeps_free rfl ?_
        rintro L a wx hL hd ⟨y14, y15, y16, y17, y18, y19, y20, y21, y22, y23, y24, y25, y9, y10, y11, B1_2, B1_6, B1_10, p1_12, p1_13, p1_14, rfl, hG, f0, f1, f2, f3, f4, f5, f6, f7, f8, f9, f10, f11, f12, f13, f14, f15, f16, f17, g12_13, g12_14, g13_14⟩
        obtain ⟨e0, e1, -⟩ := hd
        obtain ⟨y6_0, y6_1, h6⟩ := f6 (e0 rfl); subst h6
        have l16 : L 16 = false := by
          cases h : L 16 with
          | false => rfl
          | true => have := (f16 h).1; rw [hL] at this; cases this
        refine wp_call1 rfl rfl (by go_simp) ?_
        refine (k_sync B1_6 _ y6_0).mono ?_
        rintro e w1 ⟨rfl, hg⟩
        refine ⟨_, rfl, ?_⟩
        exact ⟨y14, y15, y16, y17, y18, y19, _, _, y22, y23, y24, y25, y9, y10, y11, B1_2, B1_6, B1_10, p1_12, p1_13, p1_14, rfl, hG.trans hg, f0, f1, f2, f3, f4, f5, fun _ => ⟨y6_0, y6_1, rfl⟩, fun _ => ⟨e0 rfl, rfl⟩, f8, f9, f10, f11, fun h => let ⟨z1, z2, z3⟩ := f12 h; ⟨z1, z2, z3.gr hg⟩, fun h => let ⟨z1, z2, z3⟩ := f13 h; ⟨z1, z2, by rw [l16] at z3; rw [show upd L 7 16 = false from l16]; exact z3.gr hg⟩, fun h => let ⟨z1, z2, z3⟩ := f14 h; ⟨z1, z2, z3.gr hg⟩, f15, (fun h => absurd (show L 16 = true from h) (by rw [l16]; decide)), f17, g12_13, g12_14, g13_14⟩
      refine allOps_cons 8 ?_ ?_
      · refine keeps_free rfl ?_
        rintro L a wx hL hd ⟨y14, y15, y16, y17, y18, y19, y20, y21, y22, y23, y24, y25, y9, y10, y11, B1_2, B1_6, B1_10, p1_12, p1_13, p1_14, rfl, hG, f0, f1, f2, f3, f4, f5, f6, f7, f8, f9, f10, f11, f12, f13, f14, f15, f16, f17, g12_13, g12_14, g13_14⟩
        refine wp_loadA rfl rfl ((HC).gr hG) ?_
        exact ⟨y14, y15, y16, y17, y18, y19, y20, y21, .agg (av t), y23, y24, y25, y9, y10, y11, B1_2, B1_6, B1_10, p1_12, p1_13, p1_14, rfl, hG, f0, f1, f2, f3, f4, f5, f6, f7, fun _ => rfl, f9, f10, f11, f12, f13, f14, f15, f16, f17, g12_13, g12_14, g13_14⟩
      refine allOps_cons 9 ?_ ?_
      · refine keeps_free rfl ?_
        rintro L a wx hL hd ⟨y14, y15, y16, y17, y18, y19, y20, y21, y22, y23, y24, y25, y9, y10, y11, B1_2, B1_6, B1_10, p1_12, p1_13, p1_14, rfl, hG, f0, f1, f2, f3, f4, f5, f6, f7, f8, f9, f10, f11, f12, f13, f14, f15, f16, f17, g12_13, g12_14, g13_14⟩
        refine wp_move rfl rfl ?_
        exact ⟨y14, y15, y16, y17, y18, y19, y20, y21, y22, .int .u64 (iv x), y24, y25, y9, y10, y11, B1_2, B1_6, B1_10, p1_12, p1_13, p1_14, rfl, hG, f0, f1, f2, f3, f4, f5, f6, f7, f8, fun _ => rfl, f10, f11, f12, f13, f14, f15, f16, f17, g12_13, g12_14, g13_14⟩
      refine allOps_cons 10 ?_ ?_
      · refine keeps_free rfl ?_
        rintro L a wx hL hd ⟨y14, y15, y16, y17, y18, y19, y20, y21, y22, y23, y24, y25, y9, y10, y11, B1_2, B1_6, B1_10, p1_12, p1_13, p1_14, rfl, hG, f0, f1, f2, f3, f4, f5, f6, f7, f8, f9, f10, f11, f12, f13, f14, f15, f16, f17, g12_13, g12_14, g13_14⟩
        obtain ⟨e0, e1, e2, -⟩ := hd
        have h8 := f8 (e0 rfl); subst h8
        have h9 := f9 (e1 rfl); subst h9
        have l11 : L 11 = false := by
          cases h : L 11 with
          | false => rfl
          | true => have := (f11 h).1; rw [hL] at this; cases this
        have l17 : L 17 = false := by
          cases h : L 17 with
          | false => rfl
          | true => have := (f17 h).1; rw [l11] at this; cases this
        refine wp_call2 rfl rfl rfl (by go_simp) ?_
        refine (k_of t ht x _).mono ?_
        rintro e w1 ⟨A, gA, kA, rfl, hg⟩
        refine ⟨_, rfl, ?_⟩
        exact ⟨y14, y15, y16, y17, y18, y19, y20, y21, _, _, _, y25, y9, y10, y11, B1_2, B1_6, A, p1_12, p1_13, p1_14, rfl, hG.trans hg, f0, f1, f2, f3, f4, f5, f6, f7, fun _ => rfl, fun _ => rfl, fun _ => ⟨gA, kA, rfl⟩, (fun h => absurd (show L 11 = true from h) (by rw [l11]; decide)), fun h => let ⟨z1, z2, z3⟩ := f12 h; ⟨z1, z2, z3.gr hg⟩, fun h => let ⟨z1, z2, z3⟩ := f13 h; ⟨z1, z2, z3.gr hg⟩, fun h => let ⟨z1, z2, z3⟩ := f14 h; ⟨z1, z2, by rw [l17] at z3; rw [show upd L 10 17 = false from l17]; exact z3.gr hg⟩, f15, f16, (fun h => absurd (show L 17 = true from h) (by rw [l17]; decide)), g12_13, g12_14, g13_14⟩
      refine allOps_cons 11 ?_ ?_
      · refine keeps_free rfl ?_
        rintro L a wx hL hd ⟨y14, y15, y16, y17, y18, y19, y20, y21, y22, y23, y24, y25, y9, y10, y11, B1_2, B1_6, B1_10, p1_12, p1_13, p1_14, rfl, hG, f0, f1, f2, f3, f4, f5, f6, f7, f8, f9, f10, f11, f12, f13, f14, f15, f16, f17, g12_13, g12_14, g13_14⟩
        obtain ⟨e0, e1, -⟩ := hd
        obtain ⟨y10_0, y10_1, h10⟩ := f10 (e0 rfl); subst h10
        have l17 : L 17 = false := by
          cases h : L 17 with
          | false => rfl
          | true => have := (f17 h).1; rw [hL] at this; cases this
        refine wp_call1 rfl rfl (by go_simp) ?_
        refine (k_sync B1_10 _ y10_0).mono ?_
        rintro e w1 ⟨rfl, hg⟩
        refine ⟨_, rfl, ?_⟩
        exact ⟨y14, y15, y16, y17, y18, y19, y20, y21, y22, y23, _, _, y9, y10, y11, B1_2, B1_6, B1_10, p1_12, p1_13, p1_14, rfl, hG.trans hg, f0, f1, f2, f3, f4, f5, f6, f7, f8, f9, fun _ => ⟨y10_0, y10_1, rfl⟩, fun _ => ⟨e0 rfl, rfl⟩, fun h => let ⟨z1, z2, z3⟩ := f12 h; ⟨z1, z2, z3.gr hg⟩, fun h => let ⟨z1, z2, z3⟩ := f13 h; ⟨z1, z2, z3.gr hg⟩, fun h => let ⟨z1, z2, z3⟩ := f14 h; ⟨z1, z2, by rw [l17] at z3; rw [show upd L 11 17 = false from l17]; exact z3.gr hg⟩, f15, f16, (fun h => absurd (show L 17 = true from h) (by rw [l17]; decide)), g12_13, g12_14, g13_14⟩
      refine allOps_cons 12 ?_ ?_
      · refine keeps_free rfl ?_
        rintro L a wx hL hd ⟨y14, y15, y16, y17, y18, y19, y20, y21, y22, y23, y24, y25, y9, y10, y11, B1_2, B1_6, B1_10, p1_12, p1_13, p1_14, rfl, hG, f0, f1, f2, f3, f4, f5, f6, f7, f8, f9, f10, f11, f12, f13, f14, f15, f16, f17, g12_13, g12_14, g13_14⟩
        have l15 : L 15 = false := by
          cases h : L 15 with
          | false => rfl
          | true => have := (f15 h).2; rw [hL] at this; cases this
        refine wp_allocB rfl ?_
        intro w1 hn hg
        exact ⟨y14, y15, y16, y17, y18, y19, y20, y21, y22, y23, y24, y25, _, y10, y11, B1_2, B1_6, B1_10, wx.heap.size, p1_13, p1_14, rfl, hG.trans hg, f0, f1, f2, f3, f4, f5, f6, f7, f8, f9, f10, f11, fun _ => ⟨rfl, hG.below.size, by rw [show upd L 12 15 = false from l15]; exact hn⟩, fun h => let ⟨z1, z2, z3⟩ := f13 h; ⟨z1, z2, z3.gr hg⟩, fun h => let ⟨z1, z2, z3⟩ := f14 h; ⟨z1, z2, z3.gr hg⟩, (fun h => absurd (show L 15 = true from h) (by rw [l15]; decide)), f16, f17, fun _ h => by have z := (f13 h).2.2.lt; omega, fun _ h => by have z := (f14 h).2.2.lt; omega, g13_14⟩
      refine allOps_cons 13 ?_ ?_
      · refine keeps_free rfl ?_
        rintro L a wx hL hd ⟨y14, y15, y16, y17, y18, y19, y20, y21, y22, y23, y24, y25, y9, y10, y11, B1_2, B1_6, B1_10, p1_12, p1_13, p1_14, rfl, hG, f0, f1, f2, f3, f4, f5, f6, f7, f8, f9, f10, f11, f12, f13, f14, f15, f16, f17, g12_13, g12_14, g13_14⟩
        have l16 : L 16 = false := by
          cases h : L 16 with
          | false => rfl
          | true => have := (f16 h).2; rw [hL] at this; cases this
        refine wp_allocB rfl ?_
        intro w1 hn hg
        exact ⟨y14, y15, y16, y17, y18, y19, y20, y21, y22, y23, y24, y25, y9, _, y11, B1_2, B1_6, B1_10, p1_12, wx.heap.size, p1_14, rfl, hG.trans hg, f0, f1, f2, f3, f4, f5, f6, f7, f8, f9, f10, f11, fun h => let ⟨z1, z2, z3⟩ := f12 h; ⟨z1, z2, z3.gr hg⟩, fun _ => ⟨rfl, hG.below.size, by rw [show upd L 13 16 = false from l16]; exact hn⟩, fun h => let ⟨z1, z2, z3⟩ := f14 h; ⟨z1, z2, z3.gr hg⟩, f15, (fun h => absurd (show L 16 = true from h) (by rw [l16]; decide)), f17, fun h _ => by have z := (f12 h).2.2.lt; omega, g12_14, fun _ h => by have z := (f14 h).2.2.lt; omega⟩
      refine allOps_cons 14 ?_ ?_
      · refine keeps_free rfl ?_
        rintro L a wx hL hd ⟨y14, y15, y16, y17, y18, y19, y20, y21, y22, y23, y24, y25, y9, y10, y11, B1_2, B1_6, B1_10, p1_12, p1_13, p1_14, rfl, hG, f0, f1, f2, f3, f4, f5, f6, f7, f8, f9, f10, f11, f12, f13, f14, f15, f16, f17, g12_13, g12_14, g13_14⟩
        have l17 : L 17 = false := by
          cases h : L 17 with
          | false => rfl
          | true => have := (f17 h).2; rw [hL] at this; cases this
        refine wp_allocB rfl ?_
        intro w1 hn hg
        exact ⟨y14, y15, y16, y17, y18, y19, y20, y21, y22, y23, y24, y25, y9, y10, _, B1_2, B1_6, B1_10, p1_12, p1_13, wx.heap.size, rfl, hG.trans hg, f0, f1, f2, f3, f4, f5, f6, f7, f8, f9, f10, f11, fun h => let ⟨z1, z2, z3⟩ := f12 h; ⟨z1, z2, z3.gr hg⟩, fun h => let ⟨z1, z2, z3⟩ := f13 h; ⟨z1, z2, z3.gr hg⟩, fun _ => ⟨rfl, hG.below.size, by rw [show upd L 14 17 = false from l17]; exact hn⟩, f15, f16, (fun h => absurd (show L 17 = true from h) (by rw [l17]; decide)), g12_13, fun h _ => by have z := (f12 h).2.2.lt; omega, fun h _ => by have z := (f13 h).2.2.lt; omega⟩
      refine allOps_cons 15 ?_ ?_
      · refine keeps_free rfl ?_
        rintro L a wx hL hd ⟨y14, y15, y16, y17, y18, y19, y20, y21, y22, y23, y24, y25, y9, y10, y11, B1_2, B1_6, B1_10, p1_12, p1_13, p1_14, rfl, hG, f0, f1, f2, f3, f4, f5, f6, f7, f8, f9, f10, f11, f12, f13, f14, f15, f16, f17, g12_13, g12_14, g13_14⟩
        obtain ⟨e0, e1, e2, e3, e4, e5, e6, e7, e8, e9, e10, e11, e12, e13, e14, e15, e16, e17, -⟩ := hd
        have lp : L 12 = true := e0 rfl
        have lx : L 3 = true := e1 rfl
        obtain ⟨h1, h2, h3⟩ := f12 lp
        obtain ⟨y0, h4⟩ := f3 lx
        rw [hL] at h3
        subst h1; subst h4
        refine wp_storeB rfl rfl rfl h3 ?_
        intro w1 hn hgx
        exact ⟨y14, y15, y16, _, y18, y19, y20, y21, y22, y23, y24, y25, _, y10, y11, B1_2, B1_6, B1_10, p1_12, p1_13, p1_14, rfl, hgx.gr _ hG h2, f0, f1, f2, fun _ => ⟨y0, rfl⟩, f4, f5, f6, f7, f8, f9, f10, f11, fun _ => ⟨rfl, h2, hn⟩, fun h => let ⟨z1, z2, z3⟩ := f13 h; ⟨z1, z2, z3.grx hgx (Ne.symm (g12_13 lp h))⟩, fun h => let ⟨z1, z2, z3⟩ := f14 h; ⟨z1, z2, z3.grx hgx (Ne.symm (g12_14 lp h))⟩, fun _ => ⟨lx, lp⟩, f16, f17, g12_13, g12_14, g13_14⟩
      refine allOps_cons 16 ?_ ?_
      · refine keeps_free rfl ?_
        rintro L a wx hL hd ⟨y14, y15, y16, y17, y18, y19, y20, y21, y22, y23, y24, y25, y9, y10, y11, B1_2, B1_6, B1_10, p1_12, p1_13, p1_14, rfl, hG, f0, f1, f2, f3, f4, f5, f6, f7, f8, f9, f10, f11, f12, f13, f14, f15, f16, f17, g12_13, g12_14, g13_14⟩
        obtain ⟨e0, e1, e2, e3, e4, e5, e6, e7, e8, e9, e10, e11, e12, e13, e14, e15, e16, e17, e18, -⟩ := hd
        have lp : L 13 = true := e0 rfl
        have lx : L 7 = true := e1 rfl
        obtain ⟨h1, h2, h3⟩ := f13 lp
        obtain ⟨y0, h4⟩ := f7 lx
        rw [hL] at h3
        subst h1; subst h4
        refine wp_storeB rfl rfl rfl h3 ?_
        intro w1 hn hgx
        exact ⟨y14, y15, y16, y17, y18, y19, y20, _, y22, y23, y24, y25, y9, _, y11, B1_2, B1_6, B1_10, p1_12, p1_13, p1_14, rfl, hgx.gr _ hG h2, f0, f1, f2, f3, f4, f5, f6, fun _ => ⟨y0, rfl⟩, f8, f9, f10, f11, fun h => let ⟨z1, z2, z3⟩ := f12 h; ⟨z1, z2, z3.grx hgx (g12_13 h lp)⟩, fun _ => ⟨rfl, h2, hn⟩, fun h => let ⟨z1, z2, z3⟩ := f14 h; ⟨z1, z2, z3.grx hgx (Ne.symm (g13_14 lp h))⟩, f15, fun _ => ⟨lx, lp⟩, f17, g12_13, g12_14, g13_14⟩
      refine allOps_cons 17 ?_ ?_
      · refine keeps_free rfl ?_
        rintro L a wx hL hd ⟨y14, y15, y16, y17, y18, y19, y20, y21, y22, y23, y24, y25, y9, y10, y11, B1_2, B1_6, B1_10, p1_12, p1_13, p1_14, rfl, hG, f0, f1, f2, f3, f4, f5, f6, f7, f8, f9, f10, f11, f12, f13, f14, f15, f16, f17, g12_13, g12_14, g13_14⟩
        obtain ⟨e0, e1, e2, e3, e4, e5, e6, e7, e8, e9, e10, e11, e12, e13, e14, e15, e16, e17, e18, e19, -⟩ := hd
        have lp : L 14 = true := e0 rfl
        have lx : L 11 = true := e1 rfl
        obtain ⟨h1, h2, h3⟩ := f14 lp
        obtain ⟨y0, h4⟩ := f11 lx
        rw [hL] at h3
        subst h1; subst h4
        refine wp_storeB rfl rfl rfl h3 ?_
        intro w1 hn hgx
        exact ⟨y14, y15, y16, y17, y18, y19, y20, y21, y22, y23, y24, _, y9, y10, _, B1_2, B1_6, B1_10, p1_12, p1_13, p1_14, rfl, hgx.gr _ hG h2, f0, f1, f2, f3, f4, f5, f6, f7, f8, f9, f10, fun _ => ⟨y0, rfl⟩, fun h => let ⟨z1, z2, z3⟩ := f12 h; ⟨z1, z2, z3.grx hgx (g12_14 h lp)⟩, fun h => let ⟨z1, z2, z3⟩ := f13 h; ⟨z1, z2, z3.grx hgx (g13_14 h lp)⟩, fun _ => ⟨rfl, h2, hn⟩, f15, f16, fun _ => ⟨lx, lp⟩, g12_13, g12_14, g13_14⟩
      exact allOps_nil 18
    case fin =>
      rintro L a wx hall ⟨y14, y15, y16, y17, y18, y19, y20, y21, y22, y23, y24, y25, y9, y10, y11, B1_2, B1_6, B1_10, p1_12, p1_13, p1_14, rfl, hG, f0, f1, f2, f3, f4, f5, f6, f7, f8, f9, f10, f11, f12, f13, f14, f15, f16, f17, g12_13, g12_14, g13_14⟩
      have l0 : L 0 = true := hall 0 (by decide)
      have l1 : L 1 = true := hall 1 (by decide)
      have l2 : L 2 = true := hall 2 (by decide)
      have l3 : L 3 = true := hall 3 (by decide)
      have l4 : L 4 = true := hall 4 (by decide)
      have l5 : L 5 = true := hall 5 (by decide)
      have l6 : L 6 = true := hall 6 (by decide)
      have l7 : L 7 = true := hall 7 (by decide)
      have l8 : L 8 = true := hall 8 (by decide)
      have l9 : L 9 = true := hall 9 (by decide)
      have l10 : L 10 = true := hall 10 (by decide)
      have l11 : L 11 = true := hall 11 (by decide)
      have l12 : L 12 = true := hall 12 (by decide)
      have l13 : L 13 = true := hall 13 (by decide)
      have l14 : L 14 = true := hall 14 (by decide)
      have l15 : L 15 = true := hall 15 (by decide)
      have l16 : L 16 = true := hall 16 (by decide)
      have l17 : L 17 = true := hall 17 (by decide)
      obtain ⟨h12, k12, z12⟩ := f12 l12; rw [l15] at z12
      obtain ⟨h13, k13, z13⟩ := f13 l13; rw [l16] at z13
      obtain ⟨h14, k14, z14⟩ := f14 l14; rw [l17] at z14
      obtain ⟨y2_0, y2_1, -⟩ := f2 l2
      obtain ⟨y6_0, y6_1, -⟩ := f6 l6
      obtain ⟨y10_0, y10_1, -⟩ := f10 l10
      refine hK2 _ _ (hJ _ _ ?_)
      (repeat apply Exists.intro)
      refine ⟨?rel1, rfl⟩
      exact ⟨p1_12, p1_13, p1_14, B1_2, B1_6, B1_10, h12, h13, h14, y2_0, y2_1, y6_0, y6_1, y10_0, y10_1, z12, z13, z14, g12_13 l12 l13, g12_14 l12 l14, g13_14 l13 l14, hG⟩
  case rest =>
    obtain ⟨p1_12, p1_13, p1_14, B1_2, B1_6, B1_10, rfl, rfl, rfl, B1_2_0, B1_2_1, B1_6_0, B1_6_1, B1_10_0, B1_10_1, zp1_12, zp1_13, zp1_14, np1_12_p1_13, np1_12_p1_14, np1_13_p1_14, hc1⟩ := hcut
    have hXA_1 := (HA).gr hc1
    have hXB_1 := (HB).gr hc1
    have hXC_1 := (HC).gr hc1
    have hF_1 := (HF).trans hc1
    have ka := sync_keep B1_2_0 B1_2_1
    have kb := sync_keep B1_6_0 B1_6_1
    have kc := sync_keep B1_10_0 B1_10_1
    have km := meet_keep ka.2.2 kb.2.2 ka.1 kb.1
    have kn := meet_keep km.2.2.2 kc.2.2 km.1 kc.1
    go_upto_region 2 with fail
    refine wp_region_seqW (by kernel_rfl) ?_
    refine seq_do ?_
    refine wp_loadB rfl rfl (zp1_12) ?_
    simp only [Act.put, List.setIfInBounds_toArray, List.set_cons_zero, List.set_cons_succ]
    refine seq_do ?_
    refine wp_loadB rfl rfl (zp1_13) ?_
    simp only [Act.put, List.setIfInBounds_toArray, List.set_cons_zero, List.set_cons_succ]
    refine seq_do ?_
    refine wp_call2 rfl rfl rfl (by go_simp) ?_
    refine ((fun w => k_meet (syncM B1_2) (syncM B1_6) x w ka.2.2 kb.2.2 ka.1 kb.1) _).mono ?_
    rintro e wk2 ⟨rfl, hk2⟩
    refine ⟨_, rfl, ?_⟩
    have hp1_12_2 := (zp1_12).gr hk2
    have hp1_13_2 := (zp1_13).gr hk2
    have hp1_14_2 := (zp1_14).gr hk2
    have hF_2 := (hF_1).trans hk2
    simp only [Act.put, List.setIfInBounds_toArray, List.set_cons_zero, List.set_cons_succ]
    refine seq_do ?_
    refine wp_allocB rfl ?_
    intro ws3 hn3 hg3
    have hge3 := (hF_2).below.size
    have hnep1_12_PN3 : p1_12 ≠ wk2.heap.size := Nat.ne_of_lt (hp1_12_2).lt
    have hnep1_13_PN3 : p1_13 ≠ wk2.heap.size := Nat.ne_of_lt (hp1_13_2).lt
    have hnep1_14_PN3 : p1_14 ≠ wk2.heap.size := Nat.ne_of_lt (hp1_14_2).lt
    have hp1_12_3 := (hp1_12_2).gr hg3
    have hp1_13_3 := (hp1_13_2).gr hg3
    have hp1_14_3 := (hp1_14_2).gr hg3
    have hF_3 := (hF_2).trans hg3
    revert hn3 hge3 hnep1_12_PN3 hnep1_13_PN3 hnep1_14_PN3
    generalize wk2.heap.size = PN3
    intro hn3 hge3 hnep1_12_PN3 hnep1_13_PN3 hnep1_14_PN3
    simp only [Act.put, List.setIfInBounds_toArray, List.set_cons_zero, List.set_cons_succ]
    refine seq_do ?_
    refine wp_storeB rfl rfl rfl (hn3) ?_
    intro ws4 hs4 gx4
    have hp1_12_4 := (hp1_12_3).grx gx4 hnep1_12_PN3
    have hp1_13_4 := (hp1_13_3).grx gx4 hnep1_13_PN3
    have hp1_14_4 := (hp1_14_3).grx gx4 hnep1_14_PN3
    have hF_4 := gx4.gr _ (hF_3) hge3
    simp only [Act.put, List.setIfInBounds_toArray, List.set_cons_zero, List.set_cons_succ]
    refine seq_end ?_
    go_upto_region 3 with fail
    refine wp_region_seqW (by kernel_rfl) ?_
    refine seq_do ?_
    refine wp_loadB rfl rfl (hs4) ?_
    simp only [Act.put, List.setIfInBounds_toArray, List.set_cons_zero, List.set_cons_succ]
    refine seq_do ?_
    refine wp_loadB rfl rfl (hp1_14_4) ?_
    simp only [Act.put, List.setIfInBounds_toArray, List.set_cons_zero, List.set_cons_succ]
    refine seq_do ?_
    refine wp_call2 rfl rfl rfl (by go_simp) ?_
    refine ((fun w => k_meet (syncM (meetP (syncM B1_2) (syncM B1_6))) (syncM B1_10) x w km.2.2.2 kc.2.2 km.1 kc.1) _).mono ?_
    rintro e wk5 ⟨rfl, hk5⟩
    refine ⟨_, rfl, ?_⟩
    have hp1_12_5 := (hp1_12_4).gr hk5
    have hp1_13_5 := (hp1_13_4).gr hk5
    have hp1_14_5 := (hp1_14_4).gr hk5
    have hPN3_5 := (hs4).gr hk5
    have hF_5 := (hF_4).trans hk5
    simp only [Act.put, List.setIfInBounds_toArray, List.set_cons_zero, List.set_cons_succ]
    refine seq_do ?_
    refine wp_allocB rfl ?_
    intro ws6 hn6 hg6
    have hge6 := (hF_5).below.size
    have hnep1_12_PN6 : p1_12 ≠ wk5.heap.size := Nat.ne_of_lt (hp1_12_5).lt
    have hnep1_13_PN6 : p1_13 ≠ wk5.heap.size := Nat.ne_of_lt (hp1_13_5).lt
    have hnep1_14_PN6 : p1_14 ≠ wk5.heap.size := Nat.ne_of_lt (hp1_14_5).lt
    have hnePN3_PN6 : PN3 ≠ wk5.heap.size := Nat.ne_of_lt (hPN3_5).lt
    have hp1_12_6 := (hp1_12_5).gr hg6
    have hp1_13_6 := (hp1_13_5).gr hg6
    have hp1_14_6 := (hp1_14_5).gr hg6
    have hPN3_6 := (hPN3_5).gr hg6
    have hF_6 := (hF_5).trans hg6
    revert hn6 hge6 hnep1_12_PN6 hnep1_13_PN6 hnep1_14_PN6 hnePN3_PN6
    generalize wk5.heap.size = PN6
    intro hn6 hge6 hnep1_12_PN6 hnep1_13_PN6 hnep1_14_PN6 hnePN3_PN6
    simp only [Act.put, List.setIfInBounds_toArray, List.set_cons_zero, List.set_cons_succ]
    refine seq_do ?_
    refine wp_storeB rfl rfl rfl (hn6) ?_
    intro ws7 hs7 gx7
    have hp1_12_7 := (hp1_12_6).grx gx7 hnep1_12_PN6
    have hp1_13_7 := (hp1_13_6).grx gx7 hnep1_13_PN6
    have hp1_14_7 := (hp1_14_6).grx gx7 hnep1_14_PN6
    have hPN3_7 := (hPN3_6).grx gx7 hnePN3_PN6
    have hF_7 := gx7.gr _ (hF_6) hge6
    simp only [Act.put, List.setIfInBounds_toArray, List.set_cons_zero, List.set_cons_succ]
    refine seq_end ?_
    go_upto_region 4 with fail
    refine wp_region_q (C := Gr ws7) (by kernel_rfl) (by kernel_rfl) (Gr.drew (Gr.refl _)) ?_
    refine q_do (by rfl) ?_
    refine q_loadB rfl rfl (fun w h => (hPN3_7).gr h) ?_
    simp only [Act.put, List.setIfInBounds_toArray, List.set_cons_zero, List.set_cons_succ]
    refine q_do (by rfl) ?_
    refine q_loadB rfl rfl (fun w h => (hp1_13_7).gr h) ?_
    simp only [Act.put, List.setIfInBounds_toArray, List.set_cons_zero, List.set_cons_succ]
    refine q_do (by rfl) ?_
    refine q_loadB rfl rfl (fun w h => (hp1_12_7).gr h) ?_
    simp only [Act.put, List.setIfInBounds_toArray, List.set_cons_zero, List.set_cons_succ]
    refine q_do (by rfl) ?_
    refine q_call2 rfl rfl rfl (fun w => by go_simp) (grc (fun w => k_meet (syncM B1_6) (syncM B1_2) x w kb.2.2 ka.2.2 kb.1 ka.1) (by rw [meetP_comm])) ?_
    simp only [Act.put, List.setIfInBounds_toArray, List.set_cons_zero, List.set_cons_succ]
    refine q_do (by rfl) ?_
    refine q_neB (d := (syncM (meetP (syncM B1_2) (syncM B1_6)))) rfl rfl rfl ?_
    simp only [Act.put, List.setIfInBounds_toArray, List.set_cons_zero, List.set_cons_succ]
    refine q_do (by rfl) ?_
    refine q_move (v := .bool false) rfl rfl ?_
    simp only [Act.put, List.setIfInBounds_toArray, List.set_cons_zero, List.set_cons_succ]
    refine q_do (by rfl) ?_
    refine q_loadB rfl rfl (fun w h => (hp1_12_7).gr h) ?_
    simp only [Act.put, List.setIfInBounds_toArray, List.set_cons_zero, List.set_cons_succ]
    refine q_do (by rfl) ?_
    refine q_loadB rfl rfl (fun w h => (hp1_12_7).gr h) ?_
    simp only [Act.put, List.setIfInBounds_toArray, List.set_cons_zero, List.set_cons_succ]
    refine q_do (by rfl) ?_
    refine q_call2 rfl rfl rfl (fun w => by go_simp) (grc (fun w => k_in (syncM B1_2) (syncM B1_2) w) (by rw [inM_of ka.2.2 (Le.refl _ (ka.2.2).t)])) ?_
    simp only [Act.put, List.setIfInBounds_toArray, List.set_cons_zero, List.set_cons_succ]
    refine q_do (by rfl) ?_
    refine q_not (b := true) (c := false) rfl rfl rfl ?_
    simp only [Act.put, List.setIfInBounds_toArray, List.set_cons_zero, List.set_cons_succ]
    refine q_do (by rfl) ?_
    refine q_pickF (v := .bool false) rfl rfl rfl ?_
    simp only [Act.put, List.setIfInBounds_toArray, List.set_cons_zero, List.set_cons_succ]
    refine q_do (by rfl) ?_
    refine q_move (v := .bool false) rfl rfl ?_
    simp only [Act.put, List.setIfInBounds_toArray, List.set_cons_zero, List.set_cons_succ]
    refine q_do (by rfl) ?_
    refine q_loadB rfl rfl (fun w h => (hPN3_7).gr h) ?_
    simp only [Act.put, List.setIfInBounds_toArray, List.set_cons_zero, List.set_cons_succ]
    refine q_do (by rfl) ?_
    refine q_loadB rfl rfl (fun w h => (hp1_12_7).gr h) ?_
    simp only [Act.put, List.setIfInBounds_toArray, List.set_cons_zero, List.set_cons_succ]
    refine q_do (by rfl) ?_
    refine q_call2 rfl rfl rfl (fun w => by go_simp) (grc (fun w => k_in (syncM (meetP (syncM B1_2) (syncM B1_6))) (syncM B1_2) w) (by rw [inM_of km.2.2.2 km.2.1])) ?_
    simp only [Act.put, List.setIfInBounds_toArray, List.set_cons_zero, List.set_cons_succ]
    refine q_do (by rfl) ?_
    refine q_not (b := true) (c := false) rfl rfl rfl ?_
    simp only [Act.put, List.setIfInBounds_toArray, List.set_cons_zero, List.set_cons_succ]
    refine q_do (by rfl) ?_
    refine q_pickF (v := .bool false) rfl rfl rfl ?_
    simp only [Act.put, List.setIfInBounds_toArray, List.set_cons_zero, List.set_cons_succ]
    refine q_do (by rfl) ?_
    refine q_move (v := .bool false) rfl rfl ?_
    simp only [Act.put, List.setIfInBounds_toArray, List.set_cons_zero, List.set_cons_succ]
    refine q_do (by rfl) ?_
    refine q_loadB rfl rfl (fun w h => (hPN3_7).gr h) ?_
    simp only [Act.put, List.setIfInBounds_toArray, List.set_cons_zero, List.set_cons_succ]
    refine q_do (by rfl) ?_
    refine q_loadB rfl rfl (fun w h => (hp1_13_7).gr h) ?_
    simp only [Act.put, List.setIfInBounds_toArray, List.set_cons_zero, List.set_cons_succ]
    refine q_do (by rfl) ?_
    refine q_call2 rfl rfl rfl (fun w => by go_simp) (grc (fun w => k_in (syncM (meetP (syncM B1_2) (syncM B1_6))) (syncM B1_6) w) (by rw [inM_of km.2.2.2 km.2.2.1])) ?_
    simp only [Act.put, List.setIfInBounds_toArray, List.set_cons_zero, List.set_cons_succ]
    refine q_do (by rfl) ?_
    refine q_not (b := true) (c := false) rfl rfl rfl ?_
    simp only [Act.put, List.setIfInBounds_toArray, List.set_cons_zero, List.set_cons_succ]
    refine q_do (by rfl) ?_
    refine q_pickF (v := .bool false) rfl rfl rfl ?_
    simp only [Act.put, List.setIfInBounds_toArray, List.set_cons_zero, List.set_cons_succ]
    refine q_do (by rfl) ?_
    refine q_move (v := .bool false) rfl rfl ?_
    simp only [Act.put, List.setIfInBounds_toArray, List.set_cons_zero, List.set_cons_succ]
    refine q_do (by rfl) ?_
    refine q_loadB rfl rfl (fun w h => (hs7).gr h) ?_
    simp only [Act.put, List.setIfInBounds_toArray, List.set_cons_zero, List.set_cons_succ]
    refine q_do (by rfl) ?_
    refine q_loadB rfl rfl (fun w h => (hPN3_7).gr h) ?_
    simp only [Act.put, List.setIfInBounds_toArray, List.set_cons_zero, List.set_cons_succ]
    refine q_do (by rfl) ?_
    refine q_call2 rfl rfl rfl (fun w => by go_simp) (grc (fun w => k_in (syncM (meetP (syncM (meetP (syncM B1_2) (syncM B1_6))) (syncM B1_10))) (syncM (meetP (syncM B1_2) (syncM B1_6))) w) (by rw [inM_of kn.2.2.2 kn.2.1])) ?_
    simp only [Act.put, List.setIfInBounds_toArray, List.set_cons_zero, List.set_cons_succ]
    refine q_do (by rfl) ?_
    refine q_not (b := true) (c := false) rfl rfl rfl ?_
    simp only [Act.put, List.setIfInBounds_toArray, List.set_cons_zero, List.set_cons_succ]
    refine q_do (by rfl) ?_
    refine q_pickF (v := .bool false) rfl rfl rfl ?_
    simp only [Act.put, List.setIfInBounds_toArray, List.set_cons_zero, List.set_cons_succ]
    refine q_do (by rfl) ?_
    refine q_move (v := .bool false) rfl rfl ?_
    simp only [Act.put, List.setIfInBounds_toArray, List.set_cons_zero, List.set_cons_succ]
    refine q_do (by rfl) ?_
    refine q_loadB rfl rfl (fun w h => (hs7).gr h) ?_
    simp only [Act.put, List.setIfInBounds_toArray, List.set_cons_zero, List.set_cons_succ]
    refine q_do (by rfl) ?_
    refine q_loadB rfl rfl (fun w h => (hp1_12_7).gr h) ?_
    simp only [Act.put, List.setIfInBounds_toArray, List.set_cons_zero, List.set_cons_succ]
    refine q_do (by rfl) ?_
    refine q_call2 rfl rfl rfl (fun w => by go_simp) (grc (fun w => k_in (syncM (meetP (syncM (meetP (syncM B1_2) (syncM B1_6))) (syncM B1_10))) (syncM B1_2) w) (by rw [inM_of kn.2.2.2 (kn.2.1.trans km.2.1)])) ?_
    simp only [Act.put, List.setIfInBounds_toArray, List.set_cons_zero, List.set_cons_succ]
    refine q_do (by rfl) ?_
    refine q_not (b := true) (c := false) rfl rfl rfl ?_
    simp only [Act.put, List.setIfInBounds_toArray, List.set_cons_zero, List.set_cons_succ]
    refine q_do (by rfl) ?_
    refine q_pickF (v := .bool false) rfl rfl rfl ?_
    simp only [Act.put, List.setIfInBounds_toArray, List.set_cons_zero, List.set_cons_succ]
    refine q_do (by rfl) ?_
    refine q_move (v := .bool false) rfl rfl ?_
    simp only [Act.put, List.setIfInBounds_toArray, List.set_cons_zero, List.set_cons_succ]
    refine q_do (by rfl) ?_
    refine q_loadB rfl rfl (fun w h => (hs7).gr h) ?_
    simp only [Act.put, List.setIfInBounds_toArray, List.set_cons_zero, List.set_cons_succ]
    refine q_do (by rfl) ?_
    refine q_loadB rfl rfl (fun w h => (hp1_14_7).gr h) ?_
    simp only [Act.put, List.setIfInBounds_toArray, List.set_cons_zero, List.set_cons_succ]
    refine q_do (by rfl) ?_
    refine q_call2 rfl rfl rfl (fun w => by go_simp) (grc (fun w => k_in (syncM (meetP (syncM (meetP (syncM B1_2) (syncM B1_6))) (syncM B1_10))) (syncM B1_10) w) (by rw [inM_of kn.2.2.2 kn.2.2.1])) ?_
    simp only [Act.put, List.setIfInBounds_toArray, List.set_cons_zero, List.set_cons_succ]
    refine q_do (by rfl) ?_
    refine q_not (b := true) (c := false) rfl rfl rfl ?_
    simp only [Act.put, List.setIfInBounds_toArray, List.set_cons_zero, List.set_cons_succ]
    refine q_do (by rfl) ?_
    refine q_pickF (v := .bool false) rfl rfl rfl ?_
    simp only [Act.put, List.setIfInBounds_toArray, List.set_cons_zero, List.set_cons_succ]
    refine q_do (by rfl) ?_
    refine q_move (v := .bool false) rfl rfl ?_
    simp only [Act.put, List.setIfInBounds_toArray, List.set_cons_zero, List.set_cons_succ]
    refine q_do (by rfl) ?_
    refine q_loadB rfl rfl (fun w h => (hs7).gr h) ?_
    simp only [Act.put, List.setIfInBounds_toArray, List.set_cons_zero, List.set_cons_succ]
    refine q_do (by rfl) ?_
    refine q_move (v := .int .u64 (iv x)) rfl rfl ?_
    simp only [Act.put, List.setIfInBounds_toArray, List.set_cons_zero, List.set_cons_succ]
    refine q_do (by rfl) ?_
    refine q_call2 rfl rfl rfl (fun w => by go_simp) (grc (fun w => k_has (syncM (meetP (syncM (meetP (syncM B1_2) (syncM B1_6))) (syncM B1_10))) x w) (by rw [(hasM_iff _ _).2 kn.1])) ?_
    simp only [Act.put, List.setIfInBounds_toArray, List.set_cons_zero, List.set_cons_succ]
    refine q_do (by rfl) ?_
    refine q_not (b := true) (c := false) rfl rfl rfl ?_
    simp only [Act.put, List.setIfInBounds_toArray, List.set_cons_zero, List.set_cons_succ]
    refine q_do (by rfl) ?_
    refine q_pickF (v := .bool false) rfl rfl rfl ?_
    simp only [Act.put, List.setIfInBounds_toArray, List.set_cons_zero, List.set_cons_succ]
    intro wq8 hq8
    have hp1_12_8 := (hp1_12_7).gr hq8
    have hp1_13_8 := (hp1_13_7).gr hq8
    have hp1_14_8 := (hp1_14_7).gr hq8
    have hPN3_8 := (hPN3_7).gr hq8
    have hPN6_8 := (hs7).gr hq8
    have hF_8 := (hF_7).trans hq8
    go_upto_region 6 with fail
    obtain ⟨ab, hAB⟩ : ∃ b, inM (syncM B1_2) (syncM B1_6) = b := ⟨_, rfl⟩
    obtain ⟨bc, hBC⟩ : ∃ b, inM (syncM B1_6) (syncM B1_10) = b := ⟨_, rfl⟩
    cases ab with
    | false =>
      cases bc with
      | false =>
        refine wp_region_q (C := Gr wq8) (by kernel_rfl) (by kernel_rfl) (Gr.drew (Gr.refl _)) ?_
        refine q_do (by rfl) ?_
        refine q_loadB rfl rfl (fun w h => (hp1_12_8).gr h) ?_
        simp only [Act.put, List.setIfInBounds_toArray, List.set_cons_zero, List.set_cons_succ]
        refine q_do (by rfl) ?_
        refine q_loadB rfl rfl (fun w h => (hp1_13_8).gr h) ?_
        simp only [Act.put, List.setIfInBounds_toArray, List.set_cons_zero, List.set_cons_succ]
        refine q_do (by rfl) ?_
        refine q_call2 rfl rfl rfl (fun w => by go_simp) (grc (fun w => k_in (syncM B1_2) (syncM B1_6) w) (by rw [hAB])) ?_
        simp only [Act.put, List.setIfInBounds_toArray, List.set_cons_zero, List.set_cons_succ]
        refine q_do (by rfl) ?_
        refine q_not (b := false) (c := true) rfl rfl rfl ?_
        simp only [Act.put, List.setIfInBounds_toArray, List.set_cons_zero, List.set_cons_succ]
        refine q_do (by rfl) ?_
        refine q_move (v := .bool true) rfl rfl ?_
        simp only [Act.put, List.setIfInBounds_toArray, List.set_cons_zero, List.set_cons_succ]
        refine q_skip (by rfl) ?_
        simp only [Act.put, List.setIfInBounds_toArray, List.set_cons_zero, List.set_cons_succ]
        refine q_skip (by rfl) ?_
        simp only [Act.put, List.setIfInBounds_toArray, List.set_cons_zero, List.set_cons_succ]
        refine q_skip (by rfl) ?_
        simp only [Act.put, List.setIfInBounds_toArray, List.set_cons_zero, List.set_cons_succ]
        refine q_skip (by rfl) ?_
        simp only [Act.put, List.setIfInBounds_toArray, List.set_cons_zero, List.set_cons_succ]
        refine q_do (by rfl) ?_
        refine q_pickT (v := .bool true) rfl rfl rfl ?_
        simp only [Act.put, List.setIfInBounds_toArray, List.set_cons_zero, List.set_cons_succ]
        refine q_do (by rfl) ?_
        refine q_move (v := .bool true) rfl rfl ?_
        simp only [Act.put, List.setIfInBounds_toArray, List.set_cons_zero, List.set_cons_succ]
        refine q_skip (by rfl) ?_
        simp only [Act.put, List.setIfInBounds_toArray, List.set_cons_zero, List.set_cons_succ]
        refine q_skip (by rfl) ?_
        simp only [Act.put, List.setIfInBounds_toArray, List.set_cons_zero, List.set_cons_succ]
        refine q_skip (by rfl) ?_
        simp only [Act.put, List.setIfInBounds_toArray, List.set_cons_zero, List.set_cons_succ]
        refine q_do (by rfl) ?_
        refine q_pickT (v := .bool true) rfl rfl rfl ?_
        simp only [Act.put, List.setIfInBounds_toArray, List.set_cons_zero, List.set_cons_succ]
        refine q_do (by rfl) ?_
        refine q_move (v := .bool true) rfl rfl ?_
        simp only [Act.put, List.setIfInBounds_toArray, List.set_cons_zero, List.set_cons_succ]
        refine q_do (by rfl) ?_
        refine q_move (v := .int .u64 (iv x)) rfl rfl ?_
        simp only [Act.put, List.setIfInBounds_toArray, List.set_cons_zero, List.set_cons_succ]
        refine q_do (by rfl) ?_
        refine q_call1 rfl rfl (fun w => by go_simp) (grc (fun w => k_const x w) (rfl)) ?_
        simp only [Act.put, List.setIfInBounds_toArray, List.set_cons_zero, List.set_cons_succ]
        refine q_do (by rfl) ?_
        refine q_loadB rfl rfl (fun w h => (hPN6_8).gr h) ?_
        simp only [Act.put, List.setIfInBounds_toArray, List.set_cons_zero, List.set_cons_succ]
        refine q_do (by rfl) ?_
        refine q_call2 rfl rfl rfl (fun w => by go_simp) (grc (fun w => k_in (constM x) (syncM (meetP (syncM (meetP (syncM B1_2) (syncM B1_6))) (syncM B1_10))) w) (by rw [inM_of (good_const x) (const_le kn.1)])) ?_
        simp only [Act.put, List.setIfInBounds_toArray, List.set_cons_zero, List.set_cons_succ]
        refine q_do (by rfl) ?_
        refine q_pickT (v := .bool true) rfl rfl rfl ?_
        simp only [Act.put, List.setIfInBounds_toArray, List.set_cons_zero, List.set_cons_succ]
        refine q_do (by rfl) ?_
        refine q_move (v := .bool true) rfl rfl ?_
        simp only [Act.put, List.setIfInBounds_toArray, List.set_cons_zero, List.set_cons_succ]
        refine q_do (by rfl) ?_
        refine q_call0 rfl (fun w => by go_simp) (grc (works_any) (rfl)) ?_
        simp only [Act.put, List.setIfInBounds_toArray, List.set_cons_zero, List.set_cons_succ]
        refine q_do (by rfl) ?_
        refine q_pickT (v := .bool true) rfl rfl rfl ?_
        simp only [Act.put, List.setIfInBounds_toArray, List.set_cons_zero, List.set_cons_succ]
        refine q_do (by rfl) ?_
        refine q_assign (v := .bool true) rfl rfl ?_
        simp only [Act.put, List.setIfInBounds_toArray, List.set_cons_zero, List.set_cons_succ]
        intro wq9 hq9
        have hp1_12_9 := (hp1_12_8).gr hq9
        have hp1_13_9 := (hp1_13_8).gr hq9
        have hp1_14_9 := (hp1_14_8).gr hq9
        have hPN3_9 := (hPN3_8).gr hq9
        have hPN6_9 := (hPN6_8).gr hq9
        have hF_9 := (hF_8).trans hq9
        go_wp2
        go_ret
        exact ⟨rfl, hF_9⟩
      | true =>
        refine wp_region_q (C := Gr wq8) (by kernel_rfl) (by kernel_rfl) (Gr.drew (Gr.refl _)) ?_
        refine q_do (by rfl) ?_
        refine q_loadB rfl rfl (fun w h => (hp1_12_8).gr h) ?_
        simp only [Act.put, List.setIfInBounds_toArray, List.set_cons_zero, List.set_cons_succ]
        refine q_do (by rfl) ?_
        refine q_loadB rfl rfl (fun w h => (hp1_13_8).gr h) ?_
        simp only [Act.put, List.setIfInBounds_toArray, List.set_cons_zero, List.set_cons_succ]
        refine q_do (by rfl) ?_
        refine q_call2 rfl rfl rfl (fun w => by go_simp) (grc (fun w => k_in (syncM B1_2) (syncM B1_6) w) (by rw [hAB])) ?_
        simp only [Act.put, List.setIfInBounds_toArray, List.set_cons_zero, List.set_cons_succ]
        refine q_do (by rfl) ?_
        refine q_not (b := false) (c := true) rfl rfl rfl ?_
        simp only [Act.put, List.setIfInBounds_toArray, List.set_cons_zero, List.set_cons_succ]
        refine q_do (by rfl) ?_
        refine q_move (v := .bool true) rfl rfl ?_
        simp only [Act.put, List.setIfInBounds_toArray, List.set_cons_zero, List.set_cons_succ]
        refine q_skip (by rfl) ?_
        simp only [Act.put, List.setIfInBounds_toArray, List.set_cons_zero, List.set_cons_succ]
        refine q_skip (by rfl) ?_
        simp only [Act.put, List.setIfInBounds_toArray, List.set_cons_zero, List.set_cons_succ]
        refine q_skip (by rfl) ?_
        simp only [Act.put, List.setIfInBounds_toArray, List.set_cons_zero, List.set_cons_succ]
        refine q_skip (by rfl) ?_
        simp only [Act.put, List.setIfInBounds_toArray, List.set_cons_zero, List.set_cons_succ]
        refine q_do (by rfl) ?_
        refine q_pickT (v := .bool true) rfl rfl rfl ?_
        simp only [Act.put, List.setIfInBounds_toArray, List.set_cons_zero, List.set_cons_succ]
        refine q_do (by rfl) ?_
        refine q_move (v := .bool true) rfl rfl ?_
        simp only [Act.put, List.setIfInBounds_toArray, List.set_cons_zero, List.set_cons_succ]
        refine q_skip (by rfl) ?_
        simp only [Act.put, List.setIfInBounds_toArray, List.set_cons_zero, List.set_cons_succ]
        refine q_skip (by rfl) ?_
        simp only [Act.put, List.setIfInBounds_toArray, List.set_cons_zero, List.set_cons_succ]
        refine q_skip (by rfl) ?_
        simp only [Act.put, List.setIfInBounds_toArray, List.set_cons_zero, List.set_cons_succ]
        refine q_do (by rfl) ?_
        refine q_pickT (v := .bool true) rfl rfl rfl ?_
        simp only [Act.put, List.setIfInBounds_toArray, List.set_cons_zero, List.set_cons_succ]
        refine q_do (by rfl) ?_
        refine q_move (v := .bool true) rfl rfl ?_
        simp only [Act.put, List.setIfInBounds_toArray, List.set_cons_zero, List.set_cons_succ]
        refine q_do (by rfl) ?_
        refine q_move (v := .int .u64 (iv x)) rfl rfl ?_
        simp only [Act.put, List.setIfInBounds_toArray, List.set_cons_zero, List.set_cons_succ]
        refine q_do (by rfl) ?_
        refine q_call1 rfl rfl (fun w => by go_simp) (grc (fun w => k_const x w) (rfl)) ?_
        simp only [Act.put, List.setIfInBounds_toArray, List.set_cons_zero, List.set_cons_succ]
        refine q_do (by rfl) ?_
        refine q_loadB rfl rfl (fun w h => (hPN6_8).gr h) ?_
        simp only [Act.put, List.setIfInBounds_toArray, List.set_cons_zero, List.set_cons_succ]
        refine q_do (by rfl) ?_
        refine q_call2 rfl rfl rfl (fun w => by go_simp) (grc (fun w => k_in (constM x) (syncM (meetP (syncM (meetP (syncM B1_2) (syncM B1_6))) (syncM B1_10))) w) (by rw [inM_of (good_const x) (const_le kn.1)])) ?_
        simp only [Act.put, List.setIfInBounds_toArray, List.set_cons_zero, List.set_cons_succ]
        refine q_do (by rfl) ?_
        refine q_pickT (v := .bool true) rfl rfl rfl ?_
        simp only [Act.put, List.setIfInBounds_toArray, List.set_cons_zero, List.set_cons_succ]
        refine q_do (by rfl) ?_
        refine q_move (v := .bool true) rfl rfl ?_
        simp only [Act.put, List.setIfInBounds_toArray, List.set_cons_zero, List.set_cons_succ]
        refine q_do (by rfl) ?_
        refine q_call0 rfl (fun w => by go_simp) (grc (works_any) (rfl)) ?_
        simp only [Act.put, List.setIfInBounds_toArray, List.set_cons_zero, List.set_cons_succ]
        refine q_do (by rfl) ?_
        refine q_pickT (v := .bool true) rfl rfl rfl ?_
        simp only [Act.put, List.setIfInBounds_toArray, List.set_cons_zero, List.set_cons_succ]
        refine q_do (by rfl) ?_
        refine q_assign (v := .bool true) rfl rfl ?_
        simp only [Act.put, List.setIfInBounds_toArray, List.set_cons_zero, List.set_cons_succ]
        intro wq10 hq10
        have hp1_12_10 := (hp1_12_8).gr hq10
        have hp1_13_10 := (hp1_13_8).gr hq10
        have hp1_14_10 := (hp1_14_8).gr hq10
        have hPN3_10 := (hPN3_8).gr hq10
        have hPN6_10 := (hPN6_8).gr hq10
        have hF_10 := (hF_8).trans hq10
        go_wp2
        go_ret
        exact ⟨rfl, hF_10⟩
    | true =>
      cases bc with
      | false =>
        refine wp_region_q (C := Gr wq8) (by kernel_rfl) (by kernel_rfl) (Gr.drew (Gr.refl _)) ?_
        refine q_do (by rfl) ?_
        refine q_loadB rfl rfl (fun w h => (hp1_12_8).gr h) ?_
        simp only [Act.put, List.setIfInBounds_toArray, List.set_cons_zero, List.set_cons_succ]
        refine q_do (by rfl) ?_
        refine q_loadB rfl rfl (fun w h => (hp1_13_8).gr h) ?_
        simp only [Act.put, List.setIfInBounds_toArray, List.set_cons_zero, List.set_cons_succ]
        refine q_do (by rfl) ?_
        refine q_call2 rfl rfl rfl (fun w => by go_simp) (grc (fun w => k_in (syncM B1_2) (syncM B1_6) w) (by rw [hAB])) ?_
        simp only [Act.put, List.setIfInBounds_toArray, List.set_cons_zero, List.set_cons_succ]
        refine q_do (by rfl) ?_
        refine q_not (b := true) (c := false) rfl rfl rfl ?_
        simp only [Act.put, List.setIfInBounds_toArray, List.set_cons_zero, List.set_cons_succ]
        refine q_do (by rfl) ?_
        refine q_move (v := .bool false) rfl rfl ?_
        simp only [Act.put, List.setIfInBounds_toArray, List.set_cons_zero, List.set_cons_succ]
        refine q_do (by rfl) ?_
        refine q_loadB rfl rfl (fun w h => (hp1_13_8).gr h) ?_
        simp only [Act.put, List.setIfInBounds_toArray, List.set_cons_zero, List.set_cons_succ]
        refine q_do (by rfl) ?_
        refine q_loadB rfl rfl (fun w h => (hp1_14_8).gr h) ?_
        simp only [Act.put, List.setIfInBounds_toArray, List.set_cons_zero, List.set_cons_succ]
        refine q_do (by rfl) ?_
        refine q_call2 rfl rfl rfl (fun w => by go_simp) (grc (fun w => k_in (syncM B1_6) (syncM B1_10) w) (by rw [hBC])) ?_
        simp only [Act.put, List.setIfInBounds_toArray, List.set_cons_zero, List.set_cons_succ]
        refine q_do (by rfl) ?_
        refine q_not (b := false) (c := true) rfl rfl rfl ?_
        simp only [Act.put, List.setIfInBounds_toArray, List.set_cons_zero, List.set_cons_succ]
        refine q_do (by rfl) ?_
        refine q_pickF (v := .bool true) rfl rfl rfl ?_
        simp only [Act.put, List.setIfInBounds_toArray, List.set_cons_zero, List.set_cons_succ]
        refine q_do (by rfl) ?_
        refine q_move (v := .bool true) rfl rfl ?_
        simp only [Act.put, List.setIfInBounds_toArray, List.set_cons_zero, List.set_cons_succ]
        refine q_skip (by rfl) ?_
        simp only [Act.put, List.setIfInBounds_toArray, List.set_cons_zero, List.set_cons_succ]
        refine q_skip (by rfl) ?_
        simp only [Act.put, List.setIfInBounds_toArray, List.set_cons_zero, List.set_cons_succ]
        refine q_skip (by rfl) ?_
        simp only [Act.put, List.setIfInBounds_toArray, List.set_cons_zero, List.set_cons_succ]
        refine q_do (by rfl) ?_
        refine q_pickT (v := .bool true) rfl rfl rfl ?_
        simp only [Act.put, List.setIfInBounds_toArray, List.set_cons_zero, List.set_cons_succ]
        refine q_do (by rfl) ?_
        refine q_move (v := .bool true) rfl rfl ?_
        simp only [Act.put, List.setIfInBounds_toArray, List.set_cons_zero, List.set_cons_succ]
        refine q_do (by rfl) ?_
        refine q_move (v := .int .u64 (iv x)) rfl rfl ?_
        simp only [Act.put, List.setIfInBounds_toArray, List.set_cons_zero, List.set_cons_succ]
        refine q_do (by rfl) ?_
        refine q_call1 rfl rfl (fun w => by go_simp) (grc (fun w => k_const x w) (rfl)) ?_
        simp only [Act.put, List.setIfInBounds_toArray, List.set_cons_zero, List.set_cons_succ]
        refine q_do (by rfl) ?_
        refine q_loadB rfl rfl (fun w h => (hPN6_8).gr h) ?_
        simp only [Act.put, List.setIfInBounds_toArray, List.set_cons_zero, List.set_cons_succ]
        refine q_do (by rfl) ?_
        refine q_call2 rfl rfl rfl (fun w => by go_simp) (grc (fun w => k_in (constM x) (syncM (meetP (syncM (meetP (syncM B1_2) (syncM B1_6))) (syncM B1_10))) w) (by rw [inM_of (good_const x) (const_le kn.1)])) ?_
        simp only [Act.put, List.setIfInBounds_toArray, List.set_cons_zero, List.set_cons_succ]
        refine q_do (by rfl) ?_
        refine q_pickT (v := .bool true) rfl rfl rfl ?_
        simp only [Act.put, List.setIfInBounds_toArray, List.set_cons_zero, List.set_cons_succ]
        refine q_do (by rfl) ?_
        refine q_move (v := .bool true) rfl rfl ?_
        simp only [Act.put, List.setIfInBounds_toArray, List.set_cons_zero, List.set_cons_succ]
        refine q_do (by rfl) ?_
        refine q_call0 rfl (fun w => by go_simp) (grc (works_any) (rfl)) ?_
        simp only [Act.put, List.setIfInBounds_toArray, List.set_cons_zero, List.set_cons_succ]
        refine q_do (by rfl) ?_
        refine q_pickT (v := .bool true) rfl rfl rfl ?_
        simp only [Act.put, List.setIfInBounds_toArray, List.set_cons_zero, List.set_cons_succ]
        refine q_do (by rfl) ?_
        refine q_assign (v := .bool true) rfl rfl ?_
        simp only [Act.put, List.setIfInBounds_toArray, List.set_cons_zero, List.set_cons_succ]
        intro wq11 hq11
        have hp1_12_11 := (hp1_12_8).gr hq11
        have hp1_13_11 := (hp1_13_8).gr hq11
        have hp1_14_11 := (hp1_14_8).gr hq11
        have hPN3_11 := (hPN3_8).gr hq11
        have hPN6_11 := (hPN6_8).gr hq11
        have hF_11 := (hF_8).trans hq11
        go_wp2
        go_ret
        exact ⟨rfl, hF_11⟩
      | true =>
        refine wp_region_q (C := Gr wq8) (by kernel_rfl) (by kernel_rfl) (Gr.drew (Gr.refl _)) ?_
        refine q_do (by rfl) ?_
        refine q_loadB rfl rfl (fun w h => (hp1_12_8).gr h) ?_
        simp only [Act.put, List.setIfInBounds_toArray, List.set_cons_zero, List.set_cons_succ]
        refine q_do (by rfl) ?_
        refine q_loadB rfl rfl (fun w h => (hp1_13_8).gr h) ?_
        simp only [Act.put, List.setIfInBounds_toArray, List.set_cons_zero, List.set_cons_succ]
        refine q_do (by rfl) ?_
        refine q_call2 rfl rfl rfl (fun w => by go_simp) (grc (fun w => k_in (syncM B1_2) (syncM B1_6) w) (by rw [hAB])) ?_
        simp only [Act.put, List.setIfInBounds_toArray, List.set_cons_zero, List.set_cons_succ]
        refine q_do (by rfl) ?_
        refine q_not (b := true) (c := false) rfl rfl rfl ?_
        simp only [Act.put, List.setIfInBounds_toArray, List.set_cons_zero, List.set_cons_succ]
        refine q_do (by rfl) ?_
        refine q_move (v := .bool false) rfl rfl ?_
        simp only [Act.put, List.setIfInBounds_toArray, List.set_cons_zero, List.set_cons_succ]
        refine q_do (by rfl) ?_
        refine q_loadB rfl rfl (fun w h => (hp1_13_8).gr h) ?_
        simp only [Act.put, List.setIfInBounds_toArray, List.set_cons_zero, List.set_cons_succ]
        refine q_do (by rfl) ?_
        refine q_loadB rfl rfl (fun w h => (hp1_14_8).gr h) ?_
        simp only [Act.put, List.setIfInBounds_toArray, List.set_cons_zero, List.set_cons_succ]
        refine q_do (by rfl) ?_
        refine q_call2 rfl rfl rfl (fun w => by go_simp) (grc (fun w => k_in (syncM B1_6) (syncM B1_10) w) (by rw [hBC])) ?_
        simp only [Act.put, List.setIfInBounds_toArray, List.set_cons_zero, List.set_cons_succ]
        refine q_do (by rfl) ?_
        refine q_not (b := true) (c := false) rfl rfl rfl ?_
        simp only [Act.put, List.setIfInBounds_toArray, List.set_cons_zero, List.set_cons_succ]
        refine q_do (by rfl) ?_
        refine q_pickF (v := .bool false) rfl rfl rfl ?_
        simp only [Act.put, List.setIfInBounds_toArray, List.set_cons_zero, List.set_cons_succ]
        refine q_do (by rfl) ?_
        refine q_move (v := .bool false) rfl rfl ?_
        simp only [Act.put, List.setIfInBounds_toArray, List.set_cons_zero, List.set_cons_succ]
        refine q_do (by rfl) ?_
        refine q_loadB rfl rfl (fun w h => (hp1_12_8).gr h) ?_
        simp only [Act.put, List.setIfInBounds_toArray, List.set_cons_zero, List.set_cons_succ]
        refine q_do (by rfl) ?_
        refine q_loadB rfl rfl (fun w h => (hp1_14_8).gr h) ?_
        simp only [Act.put, List.setIfInBounds_toArray, List.set_cons_zero, List.set_cons_succ]
        refine q_do (by rfl) ?_
        refine q_call2 rfl rfl rfl (fun w => by go_simp) (grc (fun w => k_in (syncM B1_2) (syncM B1_10) w) (by rw [in_trans ka.2.2 kb.2.2 hAB hBC])) ?_
        simp only [Act.put, List.setIfInBounds_toArray, List.set_cons_zero, List.set_cons_succ]
        refine q_do (by rfl) ?_
        refine q_pickF (v := .bool true) rfl rfl rfl ?_
        simp only [Act.put, List.setIfInBounds_toArray, List.set_cons_zero, List.set_cons_succ]
        refine q_do (by rfl) ?_
        refine q_move (v := .bool true) rfl rfl ?_
        simp only [Act.put, List.setIfInBounds_toArray, List.set_cons_zero, List.set_cons_succ]
        refine q_do (by rfl) ?_
        refine q_move (v := .int .u64 (iv x)) rfl rfl ?_
        simp only [Act.put, List.setIfInBounds_toArray, List.set_cons_zero, List.set_cons_succ]
        refine q_do (by rfl) ?_
        refine q_call1 rfl rfl (fun w => by go_simp) (grc (fun w => k_const x w) (rfl)) ?_
        simp only [Act.put, List.setIfInBounds_toArray, List.set_cons_zero, List.set_cons_succ]
        refine q_do (by rfl) ?_
        refine q_loadB rfl rfl (fun w h => (hPN6_8).gr h) ?_
        simp only [Act.put, List.setIfInBounds_toArray, List.set_cons_zero, List.set_cons_succ]
        refine q_do (by rfl) ?_
        refine q_call2 rfl rfl rfl (fun w => by go_simp) (grc (fun w => k_in (constM x) (syncM (meetP (syncM (meetP (syncM B1_2) (syncM B1_6))) (syncM B1_10))) w) (by rw [inM_of (good_const x) (const_le kn.1)])) ?_
        simp only [Act.put, List.setIfInBounds_toArray, List.set_cons_zero, List.set_cons_succ]
        refine q_do (by rfl) ?_
        refine q_pickT (v := .bool true) rfl rfl rfl ?_
        simp only [Act.put, List.setIfInBounds_toArray, List.set_cons_zero, List.set_cons_succ]
        refine q_do (by rfl) ?_
        refine q_move (v := .bool true) rfl rfl ?_
        simp only [Act.put, List.setIfInBounds_toArray, List.set_cons_zero, List.set_cons_succ]
        refine q_do (by rfl) ?_
        refine q_call0 rfl (fun w => by go_simp) (grc (works_any) (rfl)) ?_
        simp only [Act.put, List.setIfInBounds_toArray, List.set_cons_zero, List.set_cons_succ]
        refine q_do (by rfl) ?_
        refine q_pickT (v := .bool true) rfl rfl rfl ?_
        simp only [Act.put, List.setIfInBounds_toArray, List.set_cons_zero, List.set_cons_succ]
        refine q_do (by rfl) ?_
        refine q_assign (v := .bool true) rfl rfl ?_
        simp only [Act.put, List.setIfInBounds_toArray, List.set_cons_zero, List.set_cons_succ]
        intro wq12 hq12
        have hp1_12_12 := (hp1_12_8).gr hq12
        have hp1_13_12 := (hp1_13_8).gr hq12
        have hp1_14_12 := (hp1_14_8).gr hq12
        have hPN3_12 := (hPN3_8).gr hq12
        have hPN6_12 := (hPN6_8).gr hq12
        have hF_12 := (hF_8).trans hq12
        go_wp2
        go_ret
        exact ⟨rfl, hF_12⟩
end Go.Proofs.YtekenpgagfmgkabGreat
