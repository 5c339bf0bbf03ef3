/- Towards the statements of package bound (layer 5): BoundKeeps, walked. -/
import Derived.Test.YtekenpgagfmgkaaGreatMB
import Derived.Deep.DeepCutAuto
namespace Go.Proofs.YtekenpgagfmgkaaGreat
open Go.ChangeShapes Go.WideShapes Go.ChangeAt Go.RowKit
open Tn (iv)
set_option linter.unusedVariables false
set_option maxRecDepth 20000

set_option maxHeartbeats 8000000 in
theorem keep_law (v u : Ab) (hv : AbOk v) (hu : AbOk u) (x y : BitVec 64) (w : World) : Calls Tryz.prog 4 #[.int .u64 (iv x), .agg #[.int .u64 (iv v.ma), .int .u64 v.dn, .int .u64 v.up, .int .u64 v.ls, .int .u64 v.mo, .int .u32 v.hf, .int .u32 v.tp], .agg #[.int .u64 (iv u.ma), .int .u64 u.dn, .int .u64 u.up, .int .u64 u.ls, .int .u64 u.mo, .int .u32 u.hf, .int .u32 u.tp], .int .u64 (iv y)] w fun e w' => e = .returned (.bool true) ∧ Gr w w' := by
  go_enter Tryz.func4, Tryz.ntmps4
  go_upto_region 1 with fail
  have HA : Hid (AtA ((w.alloc (.cells #[.int .u64 (iv v.ma), .int .u64 v.dn, .int .u64 v.up, .int .u64 v.ls, .int .u64 v.mo, .int .u32 v.hf, .int .u32 v.tp] 43)).alloc (.cells #[.int .u64 (iv u.ma), .int .u64 u.dn, .int .u64 u.up, .int .u64 u.ls, .int .u64 u.mo, .int .u32 u.hf, .int .u32 u.tp] 43)) w.heap.size (av v) 43) := (AtA.newb _ rfl _ _).alloc _
  have HB : Hid (AtA ((w.alloc (.cells #[.int .u64 (iv v.ma), .int .u64 v.dn, .int .u64 v.up, .int .u64 v.ls, .int .u64 v.mo, .int .u32 v.hf, .int .u32 v.tp] 43)).alloc (.cells #[.int .u64 (iv u.ma), .int .u64 u.dn, .int .u64 u.up, .int .u64 u.ls, .int .u64 u.mo, .int .u32 u.hf, .int .u32 u.tp] 43)) (w.heap.size + 1) (av u) 43) := AtA.newb _ (by simp) _ _
  have HF : Hid (Gr w ((w.alloc (.cells #[.int .u64 (iv v.ma), .int .u64 v.dn, .int .u64 v.up, .int .u64 v.ls, .int .u64 v.mo, .int .u32 v.hf, .int .u32 v.tp] 43)).alloc (.cells #[.int .u64 (iv u.ma), .int .u64 u.dn, .int .u64 u.up, .int .u64 u.ls, .int .u64 u.mo, .int .u32 u.hf, .int .u32 u.tp] 43))) := (⟨by go_grown, by go_grown⟩ : Gr w _)
  revert HA HB HF
  generalize ((w.alloc (.cells #[.int .u64 (iv v.ma), .int .u64 v.dn, .int .u64 v.up, .int .u64 v.ls, .int .u64 v.mo, .int .u32 v.hf, .int .u32 v.tp] 43)).alloc (.cells #[.int .u64 (iv u.ma), .int .u64 u.dn, .int .u64 u.up, .int .u64 u.ls, .int .u64 u.mo, .int .u32 u.hf, .int .u32 u.tp] 43)) = W0
  generalize w.heap.size + 1 = XB
  generalize w.heap.size = XA
  intro HA HB HF
  go_cut [9, 10] (fun c9 c10 wx => ∃ (p1_6 : Nat) (p1_7 : Nat) (B1_2 : Bd) (B1_5 : Bd), c9 = .pointer (some ⟨p1_6, 0, none⟩) ∧ c10 = .pointer (some ⟨p1_7, 0, none⟩) ∧ Good B1_2 ∧ Has B1_2 x ∧ Good B1_5 ∧ Has B1_5 x ∧ AtA wx p1_6 (bv B1_2) 30 ∧ AtA wx p1_7 (bv B1_5) 30 ∧ p1_6 ≠ p1_7 ∧ Gr W0 wx)
  case first =>
    rename_i J K2 hJ hK2
    refine wp_region_inv (by kernel_rfl) (fun L a wx => ∃ (y13 y14 y15 y16 y17 y18 y9 y10 : Value) (B1_2 : Bd) (B1_5 : Bd) (p1_6 : Nat) (p1_7 : Nat), a = ⟨(.int .u64 (iv x) :: .agg (av v) :: .agg (av u) :: .int .u64 (iv y) :: undef :: .pointer (some ⟨XA, 0, none⟩) :: .pointer (some ⟨XB, 0, none⟩) :: undef :: .bool false :: y9 :: y10 :: undef :: undef :: y13 :: y14 :: y15 :: y16 :: y17 :: y18 :: undef :: undef :: undef :: undef :: undef :: undef :: undef :: undef :: undef :: undef :: undef :: undef :: undef :: undef :: undef :: undef :: undef :: undef :: undef :: undef :: undef :: undef :: undef :: undef :: undef :: undef :: undef :: undef :: undef :: undef :: undef :: undef :: undef :: undef :: undef :: undef :: undef :: undef :: undef :: undef :: undef :: undef :: undef :: undef :: undef :: undef :: undef :: undef :: undef :: undef :: undef :: undef :: undef :: undef :: undef :: undef :: undef :: undef :: undef :: undef :: undef :: undef :: undef :: undef :: undef :: undef :: undef :: [] : List Value).toArray, []⟩ ∧ Gr W0 wx ∧ (L 0 = true → y13 = .agg (av v)) ∧ (L 1 = true → y14 = .int .u64 (iv x)) ∧ (L 2 = true → Good B1_2 ∧ Has B1_2 x ∧ y15 = .agg (bv B1_2)) ∧ (L 3 = true → y16 = .agg (av u)) ∧ (L 4 = true → y17 = .int .u64 (iv x)) ∧ (L 5 = true → Good B1_5 ∧ Has B1_5 x ∧ y18 = .agg (bv B1_5)) ∧ (L 6 = true → y9 = .pointer (some ⟨p1_6, 0, none⟩) ∧ W0.heap.size ≤ p1_6 ∧ AtA wx p1_6 (bv (sel (L 8) B1_2 zeroM)) 30) ∧ (L 7 = true → y10 = .pointer (some ⟨p1_7, 0, none⟩) ∧ W0.heap.size ≤ p1_7 ∧ AtA wx p1_7 (bv (sel (L 9) B1_5 zeroM)) 30) ∧ (L 8 = true → L 2 = true ∧ L 6 = true) ∧ (L 9 = true → L 5 = true ∧ L 7 = true) ∧ (L 6 = true → L 7 = true → p1_6 ≠ p1_7)) (by kernel_rfl) ?h0 ?step ?fin
    case h0 => exact ⟨undef, undef, undef, undef, undef, undef, undef, undef, zeroM, zeroM, 0, 0, rfl, Gr.drew (Gr.refl _), (fun h => by cases h), (fun h => by cases h), (fun h => by cases h), (fun h => by cases h), (fun h => by cases h), (fun h => by cases h), (fun h => by cases h), (fun h => by cases h), (fun h => by cases h), (fun h => by cases h), (fun h => by cases h)⟩
    case step =>
      refine allOps_cons 0 ?_ ?_
      · refine keeps_free rfl ?_
        rintro L a wx hL hd ⟨y13, y14, y15, y16, y17, y18, y9, y10, B1_2, B1_5, p1_6, p1_7, rfl, hG, f0, f1, f2, f3, f4, f5, f6, f7, f8, f9, g6_7⟩
        refine wp_loadA rfl rfl ((HA.out).gr hG) ?_
        exact ⟨.agg (av v), y14, y15, y16, y17, y18, y9, y10, B1_2, B1_5, p1_6, p1_7, rfl, hG, fun _ => rfl, f1, f2, f3, f4, f5, f6, f7, f8, f9, g6_7⟩
      refine allOps_cons 1 ?_ ?_
      · refine keeps_free rfl ?_
        rintro L a wx hL hd ⟨y13, y14, y15, y16, y17, y18, y9, y10, B1_2, B1_5, p1_6, p1_7, rfl, hG, f0, f1, f2, f3, f4, f5, f6, f7, f8, f9, g6_7⟩
        refine wp_move rfl rfl ?_
        exact ⟨y13, .int .u64 (iv x), y15, y16, y17, y18, y9, y10, B1_2, B1_5, p1_6, p1_7, rfl, hG, f0, fun _ => rfl, f2, f3, f4, f5, f6, f7, f8, f9, g6_7⟩
      refine allOps_cons 2 ?_ ?_
      · refine keeps_free rfl ?_
        rintro L a wx hL hd ⟨y13, y14, y15, y16, y17, y18, y9, y10, B1_2, B1_5, p1_6, p1_7, rfl, hG, f0, f1, f2, f3, f4, f5, f6, f7, f8, f9, g6_7⟩
        obtain ⟨e0, e1, -⟩ := hd
        have h0 := f0 (e0 rfl); subst h0
        have h1 := f1 (e1 rfl); subst h1
        have l8 : L 8 = false := by
          cases h : L 8 with
          | false => rfl
          | true => have := (f8 h).1; rw [hL] at this; cases this
        refine wp_call2 rfl rfl rfl (by go_simp) ?_
        refine (k_of v hv x _).mono ?_
        rintro e w1 ⟨A, gA, kA, rfl, hg⟩
        refine ⟨_, rfl, ?_⟩
        exact ⟨_, _, _, y16, y17, y18, y9, y10, A, B1_5, p1_6, p1_7, rfl, hG.trans hg, fun _ => rfl, fun _ => rfl, fun _ => ⟨gA, kA, rfl⟩, f3, f4, f5, fun h => let ⟨z1, z2, z3⟩ := f6 h; ⟨z1, z2, by rw [l8] at z3; rw [show upd L 2 8 = false from l8]; exact z3.gr hg⟩, fun h => let ⟨z1, z2, z3⟩ := f7 h; ⟨z1, z2, z3.gr hg⟩, (fun h => absurd (show L 8 = true from h) (by rw [l8]; decide)), f9, g6_7⟩
      refine allOps_cons 3 ?_ ?_
      · refine keeps_free rfl ?_
        rintro L a wx hL hd ⟨y13, y14, y15, y16, y17, y18, y9, y10, B1_2, B1_5, p1_6, p1_7, rfl, hG, f0, f1, f2, f3, f4, f5, f6, f7, f8, f9, g6_7⟩
        refine wp_loadA rfl rfl ((HB.out).gr hG) ?_
        exact ⟨y13, y14, y15, .agg (av u), y17, y18, y9, y10, B1_2, B1_5, p1_6, p1_7, rfl, hG, f0, f1, f2, fun _ => rfl, f4, f5, f6, f7, f8, f9, g6_7⟩
      refine allOps_cons 4 ?_ ?_
      · refine keeps_free rfl ?_
        rintro L a wx hL hd ⟨y13, y14, y15, y16, y17, y18, y9, y10, B1_2, B1_5, p1_6, p1_7, rfl, hG, f0, f1, f2, f3, f4, f5, f6, f7, f8, f9, g6_7⟩
        refine wp_move rfl rfl ?_
        exact ⟨y13, y14, y15, y16, .int .u64 (iv x), y18, y9, y10, B1_2, B1_5, p1_6, p1_7, rfl, hG, f0, f1, f2, f3, fun _ => rfl, f5, f6, f7, f8, f9, g6_7⟩
      refine allOps_cons 5 ?_ ?_
      · refine keeps_free rfl ?_
        rintro L a wx hL hd ⟨y13, y14, y15, y16, y17, y18, y9, y10, B1_2, B1_5, p1_6, p1_7, rfl, hG, f0, f1, f2, f3, f4, f5, f6, f7, f8, f9, g6_7⟩
        obtain ⟨e0, e1, e2, -⟩ := hd
        have h3 := f3 (e0 rfl); subst h3
        have h4 := f4 (e1 rfl); subst h4
        have l9 : L 9 = false := by
          cases h : L 9 with
          | false => rfl
          | true => have := (f9 h).1; rw [hL] at this; cases this
        refine wp_call2 rfl rfl rfl (by go_simp) ?_
        refine (k_of u hu x _).mono ?_
        rintro e w1 ⟨A, gA, kA, rfl, hg⟩
        refine ⟨_, rfl, ?_⟩
        exact ⟨y13, y14, y15, _, _, _, y9, y10, B1_2, A, p1_6, p1_7, rfl, hG.trans hg, f0, f1, f2, fun _ => rfl, fun _ => rfl, fun _ => ⟨gA, kA, rfl⟩, fun h => let ⟨z1, z2, z3⟩ := f6 h; ⟨z1, z2, z3.gr hg⟩, fun h => let ⟨z1, z2, z3⟩ := f7 h; ⟨z1, z2, by rw [l9] at z3; rw [show upd L 5 9 = false from l9]; exact z3.gr hg⟩, f8, (fun h => absurd (show L 9 = true from h) (by rw [l9]; decide)), g6_7⟩
      refine allOps_cons 6 ?_ ?_
      · refine keeps_free rfl ?_
        rintro L a wx hL hd ⟨y13, y14, y15, y16, y17, y18, y9, y10, B1_2, B1_5, p1_6, p1_7, rfl, hG, f0, f1, f2, f3, f4, f5, f6, f7, f8, f9, g6_7⟩
        have l8 : L 8 = false := by
          cases h : L 8 with
          | false => rfl
          | true => have := (f8 h).2; rw [hL] at this; cases this
        refine wp_allocB rfl ?_
        intro w1 hn hg
        exact ⟨y13, y14, y15, y16, y17, y18, _, y10, B1_2, B1_5, wx.heap.size, p1_7, rfl, hG.trans hg, f0, f1, f2, f3, f4, f5, fun _ => ⟨rfl, hG.below.size, by rw [show upd L 6 8 = false from l8]; exact hn⟩, fun h => let ⟨z1, z2, z3⟩ := f7 h; ⟨z1, z2, z3.gr hg⟩, (fun h => absurd (show L 8 = true from h) (by rw [l8]; decide)), f9, fun _ h => by have z := (f7 h).2.2.lt; omega⟩
      refine allOps_cons 7 ?_ ?_
      · refine keeps_free rfl ?_
        rintro L a wx hL hd ⟨y13, y14, y15, y16, y17, y18, y9, y10, B1_2, B1_5, p1_6, p1_7, rfl, hG, f0, f1, f2, f3, f4, f5, f6, f7, f8, f9, g6_7⟩
        have l9 : L 9 = false := by
          cases h : L 9 with
          | false => rfl
          | true => have := (f9 h).2; rw [hL] at this; cases this
        refine wp_allocB rfl ?_
        intro w1 hn hg
        exact ⟨y13, y14, y15, y16, y17, y18, y9, _, B1_2, B1_5, p1_6, wx.heap.size, rfl, hG.trans hg, f0, f1, f2, f3, f4, f5, fun h => let ⟨z1, z2, z3⟩ := f6 h; ⟨z1, z2, z3.gr hg⟩, fun _ => ⟨rfl, hG.below.size, by rw [show upd L 7 9 = false from l9]; exact hn⟩, f8, (fun h => absurd (show L 9 = true from h) (by rw [l9]; decide)), fun h _ => by have z := (f6 h).2.2.lt; omega⟩
      refine allOps_cons 8 ?_ ?_
      · refine keeps_free rfl ?_
        rintro L a wx hL hd ⟨y13, y14, y15, y16, y17, y18, y9, y10, B1_2, B1_5, p1_6, p1_7, rfl, hG, f0, f1, f2, f3, f4, f5, f6, f7, f8, f9, g6_7⟩
        obtain ⟨e0, e1, e2, e3, e4, e5, e6, e7, e8, e9, e10, -⟩ := hd
        have lp : L 6 = true := e0 rfl
        have lx : L 2 = true := e1 rfl
        obtain ⟨h1, h2, h3⟩ := f6 lp
        obtain ⟨y0, y1, h4⟩ := f2 lx
        rw [hL] at h3
        subst h1; subst h4
        refine wp_storeB rfl rfl rfl h3 ?_
        intro w1 hn hgx
        exact ⟨y13, y14, _, y16, y17, y18, _, y10, B1_2, B1_5, p1_6, p1_7, rfl, hgx.gr _ hG h2, f0, f1, fun _ => ⟨y0, y1, rfl⟩, f3, f4, f5, fun _ => ⟨rfl, h2, hn⟩, fun h => let ⟨z1, z2, z3⟩ := f7 h; ⟨z1, z2, z3.grx hgx (Ne.symm (g6_7 lp h))⟩, fun _ => ⟨lx, lp⟩, f9, g6_7⟩
      refine allOps_cons 9 ?_ ?_
      · refine keeps_free rfl ?_
        rintro L a wx hL hd ⟨y13, y14, y15, y16, y17, y18, y9, y10, B1_2, B1_5, p1_6, p1_7, rfl, hG, f0, f1, f2, f3, f4, f5, f6, f7, f8, f9, g6_7⟩
        obtain ⟨e0, e1, e2, e3, e4, e5, e6, e7, e8, e9, e10, e11, -⟩ := hd
        have lp : L 7 = true := e0 rfl
        have lx : L 5 = true := e1 rfl
        obtain ⟨h1, h2, h3⟩ := f7 lp
        obtain ⟨y0, y1, h4⟩ := f5 lx
        rw [hL] at h3
        subst h1; subst h4
        refine wp_storeB rfl rfl rfl h3 ?_
        intro w1 hn hgx
        exact ⟨y13, y14, y15, y16, y17, _, y9, _, B1_2, B1_5, p1_6, p1_7, rfl, hgx.gr _ hG h2, f0, f1, f2, f3, f4, fun _ => ⟨y0, y1, rfl⟩, fun h => let ⟨z1, z2, z3⟩ := f6 h; ⟨z1, z2, z3.grx hgx (g6_7 h lp)⟩, fun _ => ⟨rfl, h2, hn⟩, f8, fun _ => ⟨lx, lp⟩, g6_7⟩
      exact allOps_nil 10
    case fin =>
      rintro L a wx hall ⟨y13, y14, y15, y16, y17, y18, y9, y10, B1_2, B1_5, p1_6, p1_7, rfl, hG, f0, f1, f2, f3, f4, f5, f6, f7, f8, f9, g6_7⟩
      have l0 : L 0 = true := hall 0 (by decide)
      have l1 : L 1 = true := hall 1 (by decide)
      have l2 : L 2 = true := hall 2 (by decide)
      have l3 : L 3 = true := hall 3 (by decide)
      have l4 : L 4 = true := hall 4 (by decide)
      have l5 : L 5 = true := hall 5 (by decide)
      have l6 : L 6 = true := hall 6 (by decide)
      have l7 : L 7 = true := hall 7 (by decide)
      have l8 : L 8 = true := hall 8 (by decide)
      have l9 : L 9 = true := hall 9 (by decide)
      obtain ⟨h6, k6, z6⟩ := f6 l6; rw [l8] at z6
      obtain ⟨h7, k7, z7⟩ := f7 l7; rw [l9] at z7
      obtain ⟨y2_0, y2_1, -⟩ := f2 l2
      obtain ⟨y5_0, y5_1, -⟩ := f5 l5
      refine hK2 _ _ (hJ _ _ ?_)
      (repeat apply Exists.intro)
      refine ⟨?rel1, rfl⟩
      exact ⟨p1_6, p1_7, B1_2, B1_5, h6, h7, y2_0, y2_1, y5_0, y5_1, z6, z7, g6_7 l6 l7, hG⟩
  case rest =>
    obtain ⟨p1_6, p1_7, B1_2, B1_5, rfl, rfl, B1_2_0, B1_2_1, B1_5_0, B1_5_1, zp1_6, zp1_7, np1_6_p1_7, hc1⟩ := hcut
    have hXA_1 := (HA.out).gr hc1
    have hXB_1 := (HB.out).gr hc1
    have hF_1 := (HF.out).trans hc1
    go_upto_region 2 with fail
    go_cut [11, 12] (fun c11 c12 wx => ∃ (p2_5 : Nat) (p2_6 : Nat) , c11 = .pointer (some ⟨p2_5, 0, none⟩) ∧ c12 = .pointer (some ⟨p2_6, 0, none⟩) ∧ AtA wx p2_5 (bv (syncM B1_2)) 30 ∧ AtA wx p2_6 (bv (syncM (meetP B1_2 B1_5))) 30 ∧ p2_5 ≠ p2_6 ∧ Gr wc wx)
    case first =>
      rename_i J K2 hJ hK2
      refine wp_region_inv (by kernel_rfl) (fun L a wx => ∃ (y19 y20 y21 y22 y23 y11 y12 : Value) (p2_5 : Nat) (p2_6 : Nat), a = ⟨(.int .u64 (iv x) :: .agg (av v) :: .agg (av u) :: .int .u64 (iv y) :: undef :: .pointer (some ⟨XA, 0, none⟩) :: .pointer (some ⟨XB, 0, none⟩) :: undef :: .bool false :: .pointer (some ⟨p1_6, 0, none⟩) :: .pointer (some ⟨p1_7, 0, none⟩) :: y11 :: y12 :: u13 :: u14 :: u15 :: u16 :: u17 :: u18 :: y19 :: y20 :: y21 :: y22 :: y23 :: u24 :: u25 :: u26 :: u27 :: u28 :: u29 :: u30 :: u31 :: u32 :: u33 :: u34 :: u35 :: u36 :: u37 :: u38 :: u39 :: u40 :: u41 :: u42 :: u43 :: u44 :: u45 :: u46 :: u47 :: u48 :: u49 :: u50 :: u51 :: u52 :: u53 :: u54 :: u55 :: u56 :: u57 :: u58 :: u59 :: u60 :: u61 :: u62 :: u63 :: u64 :: u65 :: u66 :: u67 :: u68 :: u69 :: u70 :: u71 :: u72 :: u73 :: u74 :: u75 :: u76 :: u77 :: u78 :: u79 :: u80 :: u81 :: u82 :: u83 :: u84 :: u85 :: [] : List Value).toArray, []⟩ ∧ Gr wc wx ∧ (L 0 = true → y19 = .agg (bv B1_2)) ∧ (L 1 = true → y20 = .agg (bv (syncM B1_2))) ∧ (L 2 = true → y21 = .agg (bv B1_2)) ∧ (L 3 = true → y22 = .agg (bv B1_5)) ∧ (L 4 = true → y23 = .agg (bv (syncM (meetP B1_2 B1_5)))) ∧ (L 5 = true → y11 = .pointer (some ⟨p2_5, 0, none⟩) ∧ wc.heap.size ≤ p2_5 ∧ AtA wx p2_5 (bv (sel (L 7) (syncM B1_2) zeroM)) 30) ∧ (L 6 = true → y12 = .pointer (some ⟨p2_6, 0, none⟩) ∧ wc.heap.size ≤ p2_6 ∧ AtA wx p2_6 (bv (sel (L 8) (syncM (meetP B1_2 B1_5)) zeroM)) 30) ∧ (L 7 = true → L 1 = true ∧ L 5 = true) ∧ (L 8 = true → L 4 = true ∧ L 6 = true) ∧ (L 5 = true → L 6 = true → p2_5 ≠ p2_6)) (by kernel_rfl) ?h0 ?step ?fin
      case h0 => exact ⟨u19, u20, u21, u22, u23, undef, undef, 0, 0, rfl, Gr.drew (Gr.refl _), (fun h => by cases h), (fun h => by cases h), (fun h => by cases h), (fun h => by cases h), (fun h => by cases h), (fun h => by cases h), (fun h => by cases h), (fun h => by cases h), (fun h => by cases h), (fun h => by cases h)⟩
      case step =>
        refine allOps_cons 0 ?_ ?_
        · refine keeps_free rfl ?_
          rintro L a wx hL hd ⟨y19, y20, y21, y22, y23, y11, y12, p2_5, p2_6, rfl, hG, f0, f1, f2, f3, f4, f5, f6, f7, f8, g5_6⟩
          refine wp_loadB rfl rfl ((zp1_6).gr hG) ?_
          exact ⟨.agg (bv B1_2), y20, y21, y22, y23, y11, y12, p2_5, p2_6, rfl, hG, fun _ => rfl, f1, f2, f3, f4, f5, f6, f7, f8, g5_6⟩
        refine allOps_cons 1 ?_ ?_
        · refine keeps_free rfl ?_
          rintro L a wx hL hd ⟨y19, y20, y21, y22, y23, y11, y12, p2_5, p2_6, rfl, hG, f0, f1, f2, f3, f4, f5, f6, f7, f8, g5_6⟩
          obtain ⟨e0, -⟩ := hd
          have h0 := f0 (e0 rfl); subst h0
          have l7 : L 7 = false := by
            cases h : L 7 with
            | false => rfl
            | true => have := (f7 h).1; rw [hL] at this; cases this
          refine wp_call1 rfl rfl (by go_simp) ?_
          refine (k_sync B1_2 _ B1_2_0).mono ?_
          rintro e w1 ⟨rfl, hg⟩
          refine ⟨_, rfl, ?_⟩
          exact ⟨_, _, y21, y22, y23, y11, y12, p2_5, p2_6, rfl, hG.trans hg, fun _ => rfl, fun _ => rfl, f2, f3, f4, fun h => let ⟨z1, z2, z3⟩ := f5 h; ⟨z1, z2, by rw [l7] at z3; rw [show upd L 1 7 = false from l7]; exact z3.gr hg⟩, fun h => let ⟨z1, z2, z3⟩ := f6 h; ⟨z1, z2, z3.gr hg⟩, (fun h => absurd (show L 7 = true from h) (by rw [l7]; decide)), f8, g5_6⟩
        refine allOps_cons 2 ?_ ?_
        · refine keeps_free rfl ?_
          rintro L a wx hL hd ⟨y19, y20, y21, y22, y23, y11, y12, p2_5, p2_6, rfl, hG, f0, f1, f2, f3, f4, f5, f6, f7, f8, g5_6⟩
          refine wp_loadB rfl rfl ((zp1_6).gr hG) ?_
          exact ⟨y19, y20, .agg (bv B1_2), y22, y23, y11, y12, p2_5, p2_6, rfl, hG, f0, f1, fun _ => rfl, f3, f4, f5, f6, f7, f8, g5_6⟩
        refine allOps_cons 3 ?_ ?_
        · refine keeps_free rfl ?_
          rintro L a wx hL hd ⟨y19, y20, y21, y22, y23, y11, y12, p2_5, p2_6, rfl, hG, f0, f1, f2, f3, f4, f5, f6, f7, f8, g5_6⟩
          refine wp_loadB rfl rfl ((zp1_7).gr hG) ?_
          exact ⟨y19, y20, y21, .agg (bv B1_5), y23, y11, y12, p2_5, p2_6, rfl, hG, f0, f1, f2, fun _ => rfl, f4, f5, f6, f7, f8, g5_6⟩
        refine allOps_cons 4 ?_ ?_
        · refine keeps_free rfl ?_
          rintro L a wx hL hd ⟨y19, y20, y21, y22, y23, y11, y12, p2_5, p2_6, rfl, hG, f0, f1, f2, f3, f4, f5, f6, f7, f8, g5_6⟩
          obtain ⟨e0, e1, e2, -⟩ := hd
          have h2 := f2 (e0 rfl); subst h2
          have h3 := f3 (e1 rfl); subst h3
          have l8 : L 8 = false := by
            cases h : L 8 with
            | false => rfl
            | true => have := (f8 h).1; rw [hL] at this; cases this
          refine wp_call2 rfl rfl rfl (by go_simp) ?_
          refine (k_meet B1_2 B1_5 x _ B1_2_0 B1_5_0 B1_2_1 B1_5_1).mono ?_
          rintro e w1 ⟨rfl, hg⟩
          refine ⟨_, rfl, ?_⟩
          exact ⟨y19, y20, _, _, _, y11, y12, p2_5, p2_6, rfl, hG.trans hg, f0, f1, fun _ => rfl, fun _ => rfl, fun _ => rfl, fun h => let ⟨z1, z2, z3⟩ := f5 h; ⟨z1, z2, z3.gr hg⟩, fun h => let ⟨z1, z2, z3⟩ := f6 h; ⟨z1, z2, by rw [l8] at z3; rw [show upd L 4 8 = false from l8]; exact z3.gr hg⟩, f7, (fun h => absurd (show L 8 = true from h) (by rw [l8]; decide)), g5_6⟩
        refine allOps_cons 5 ?_ ?_
        · refine keeps_free rfl ?_
          rintro L a wx hL hd ⟨y19, y20, y21, y22, y23, y11, y12, p2_5, p2_6, rfl, hG, f0, f1, f2, f3, f4, f5, f6, f7, f8, g5_6⟩
          have l7 : L 7 = false := by
            cases h : L 7 with
            | false => rfl
            | true => have := (f7 h).2; rw [hL] at this; cases this
          refine wp_allocB rfl ?_
          intro w1 hn hg
          exact ⟨y19, y20, y21, y22, y23, _, y12, wx.heap.size, p2_6, rfl, hG.trans hg, f0, f1, f2, f3, f4, fun _ => ⟨rfl, hG.below.size, by rw [show upd L 5 7 = false from l7]; exact hn⟩, fun h => let ⟨z1, z2, z3⟩ := f6 h; ⟨z1, z2, z3.gr hg⟩, (fun h => absurd (show L 7 = true from h) (by rw [l7]; decide)), f8, fun _ h => by have z := (f6 h).2.2.lt; omega⟩
        refine allOps_cons 6 ?_ ?_
        · refine keeps_free rfl ?_
          rintro L a wx hL hd ⟨y19, y20, y21, y22, y23, y11, y12, p2_5, p2_6, rfl, hG, f0, f1, f2, f3, f4, f5, f6, f7, f8, g5_6⟩
          have l8 : L 8 = false := by
            cases h : L 8 with
            | false => rfl
            | true => have := (f8 h).2; rw [hL] at this; cases this
          refine wp_allocB rfl ?_
          intro w1 hn hg
          exact ⟨y19, y20, y21, y22, y23, y11, _, p2_5, wx.heap.size, rfl, hG.trans hg, f0, f1, f2, f3, f4, fun h => let ⟨z1, z2, z3⟩ := f5 h; ⟨z1, z2, z3.gr hg⟩, fun _ => ⟨rfl, hG.below.size, by rw [show upd L 6 8 = false from l8]; exact hn⟩, f7, (fun h => absurd (show L 8 = true from h) (by rw [l8]; decide)), fun h _ => by have z := (f5 h).2.2.lt; omega⟩
        refine allOps_cons 7 ?_ ?_
        · refine keeps_free rfl ?_
          rintro L a wx hL hd ⟨y19, y20, y21, y22, y23, y11, y12, p2_5, p2_6, rfl, hG, f0, f1, f2, f3, f4, f5, f6, f7, f8, g5_6⟩
          obtain ⟨e0, e1, e2, e3, e4, e5, e6, e7, e8, e9, -⟩ := hd
          have lp : L 5 = true := e0 rfl
          have lx : L 1 = true := e1 rfl
          obtain ⟨h1, h2, h3⟩ := f5 lp
          have h4 := f1 lx
          rw [hL] at h3
          subst h1; subst h4
          refine wp_storeB rfl rfl rfl h3 ?_
          intro w1 hn hgx
          exact ⟨y19, _, y21, y22, y23, _, y12, p2_5, p2_6, rfl, hgx.gr _ hG h2, f0, fun _ => rfl, f2, f3, f4, fun _ => ⟨rfl, h2, hn⟩, fun h => let ⟨z1, z2, z3⟩ := f6 h; ⟨z1, z2, z3.grx hgx (Ne.symm (g5_6 lp h))⟩, fun _ => ⟨lx, lp⟩, f8, g5_6⟩
        refine allOps_cons 8 ?_ ?_
        · refine keeps_free rfl ?_
          rintro L a wx hL hd ⟨y19, y20, y21, y22, y23, y11, y12, p2_5, p2_6, rfl, hG, f0, f1, f2, f3, f4, f5, f6, f7, f8, g5_6⟩
          obtain ⟨e0, e1, e2, e3, e4, e5, e6, e7, e8, e9, e10, -⟩ := hd
          have lp : L 6 = true := e0 rfl
          have lx : L 4 = true := e1 rfl
          obtain ⟨h1, h2, h3⟩ := f6 lp
          have h4 := f4 lx
          rw [hL] at h3
          subst h1; subst h4
          refine wp_storeB rfl rfl rfl h3 ?_
          intro w1 hn hgx
          exact ⟨y19, y20, y21, y22, _, y11, _, p2_5, p2_6, rfl, hgx.gr _ hG h2, f0, f1, f2, f3, fun _ => rfl, fun h => let ⟨z1, z2, z3⟩ := f5 h; ⟨z1, z2, z3.grx hgx (g5_6 h lp)⟩, fun _ => ⟨rfl, h2, hn⟩, f7, fun _ => ⟨lx, lp⟩, g5_6⟩
        exact allOps_nil 9
      case fin =>
        rintro L a wx hall ⟨y19, y20, y21, y22, y23, y11, y12, p2_5, p2_6, rfl, hG, f0, f1, f2, f3, f4, f5, f6, f7, f8, g5_6⟩
        have l0 : L 0 = true := hall 0 (by decide)
        have l1 : L 1 = true := hall 1 (by decide)
        have l2 : L 2 = true := hall 2 (by decide)
        have l3 : L 3 = true := hall 3 (by decide)
        have l4 : L 4 = true := hall 4 (by decide)
        have l5 : L 5 = true := hall 5 (by decide)
        have l6 : L 6 = true := hall 6 (by decide)
        have l7 : L 7 = true := hall 7 (by decide)
        have l8 : L 8 = true := hall 8 (by decide)
        obtain ⟨h5, k5, z5⟩ := f5 l5; rw [l7] at z5
        obtain ⟨h6, k6, z6⟩ := f6 l6; rw [l8] at z6
        refine hK2 _ _ (hJ _ _ ?_)
        (repeat apply Exists.intro)
        refine ⟨?rel2, rfl⟩
        exact ⟨p2_5, p2_6, h5, h6, z5, z6, g5_6 l5 l6, hG⟩
    case rest =>
      obtain ⟨p2_5, p2_6, rfl, rfl, zp2_5, zp2_6, np2_5_p2_6, hc2⟩ := hcut
      have hXA_2 := (hXA_1).gr hc2
      have hXB_2 := (hXB_1).gr hc2
      have hp1_6_2 := (zp1_6).gr hc2
      have hp1_7_2 := (zp1_7).gr hc2
      have hF_2 := (hF_1).trans hc2
      have sk := sync_keep B1_2_0 B1_2_1
      have mk := meet_keep B1_2_0 B1_5_0 B1_2_1 B1_5_1
      go_upto_region 3 with fail
      refine wp_region_seqq (C := Gr wc) (Gr.refl _) ?_
      refine q_do (by rfl) ?_
      refine q_loadB rfl rfl (fun w h => (hp1_6_2).gr h) ?_
      simp only [Act.put, List.setIfInBounds_toArray, List.set_cons_zero, List.set_cons_succ]
      refine q_do (by rfl) ?_
      refine q_move (v := .int .u64 (iv x)) rfl rfl ?_
      simp only [Act.put, List.setIfInBounds_toArray, List.set_cons_zero, List.set_cons_succ]
      refine q_do (by rfl) ?_
      refine q_call2 rfl rfl rfl (fun w => by go_simp) (grc (fun w => k_has B1_2 x w) (by rw [(hasM_iff _ _).2 B1_2_1])) ?_
      simp only [Act.put, List.setIfInBounds_toArray, List.set_cons_zero, List.set_cons_succ]
      refine q_do (by rfl) ?_
      refine q_not (b := true) (c := false) rfl rfl rfl ?_
      simp only [Act.put, List.setIfInBounds_toArray, List.set_cons_zero, List.set_cons_succ]
      refine q_do (by rfl) ?_
      refine q_move (v := .bool false) rfl rfl ?_
      simp only [Act.put, List.setIfInBounds_toArray, List.set_cons_zero, List.set_cons_succ]
      refine q_do (by rfl) ?_
      refine q_loadB rfl rfl (fun w h => (zp2_5).gr h) ?_
      simp only [Act.put, List.setIfInBounds_toArray, List.set_cons_zero, List.set_cons_succ]
      refine q_do (by rfl) ?_
      refine q_move (v := .int .u64 (iv x)) rfl rfl ?_
      simp only [Act.put, List.setIfInBounds_toArray, List.set_cons_zero, List.set_cons_succ]
      refine q_do (by rfl) ?_
      refine q_call2 rfl rfl rfl (fun w => by go_simp) (grc (fun w => k_has (syncM B1_2) x w) (by rw [(hasM_iff _ _).2 sk.1])) ?_
      simp only [Act.put, List.setIfInBounds_toArray, List.set_cons_zero, List.set_cons_succ]
      refine q_do (by rfl) ?_
      refine q_not (b := true) (c := false) rfl rfl rfl ?_
      simp only [Act.put, List.setIfInBounds_toArray, List.set_cons_zero, List.set_cons_succ]
      refine q_do (by rfl) ?_
      refine q_pickF (v := .bool false) rfl rfl rfl ?_
      simp only [Act.put, List.setIfInBounds_toArray, List.set_cons_zero, List.set_cons_succ]
      refine q_do (by rfl) ?_
      refine q_move (v := .bool false) rfl rfl ?_
      simp only [Act.put, List.setIfInBounds_toArray, List.set_cons_zero, List.set_cons_succ]
      refine q_do (by rfl) ?_
      refine q_loadB rfl rfl (fun w h => (zp2_6).gr h) ?_
      simp only [Act.put, List.setIfInBounds_toArray, List.set_cons_zero, List.set_cons_succ]
      refine q_do (by rfl) ?_
      refine q_move (v := .int .u64 (iv x)) rfl rfl ?_
      simp only [Act.put, List.setIfInBounds_toArray, List.set_cons_zero, List.set_cons_succ]
      refine q_do (by rfl) ?_
      refine q_call2 rfl rfl rfl (fun w => by go_simp) (grc (fun w => k_has (syncM (meetP B1_2 B1_5)) x w) (by rw [(hasM_iff _ _).2 mk.1])) ?_
      simp only [Act.put, List.setIfInBounds_toArray, List.set_cons_zero, List.set_cons_succ]
      refine q_do (by rfl) ?_
      refine q_not (b := true) (c := false) rfl rfl rfl ?_
      simp only [Act.put, List.setIfInBounds_toArray, List.set_cons_zero, List.set_cons_succ]
      refine q_do (by rfl) ?_
      refine q_pickF (v := .bool false) rfl rfl rfl ?_
      simp only [Act.put, List.setIfInBounds_toArray, List.set_cons_zero, List.set_cons_succ]
      refine q_do (by rfl) ?_
      refine q_move (v := .bool false) rfl rfl ?_
      simp only [Act.put, List.setIfInBounds_toArray, List.set_cons_zero, List.set_cons_succ]
      refine q_do (by rfl) ?_
      refine q_loadB rfl rfl (fun w h => (zp2_5).gr h) ?_
      simp only [Act.put, List.setIfInBounds_toArray, List.set_cons_zero, List.set_cons_succ]
      refine q_do (by rfl) ?_
      refine q_call1 rfl rfl (fun w => by go_simp) (grc (fun w => k_none (syncM B1_2) w) (by rw [nnB_of sk.2.2])) ?_
      simp only [Act.put, List.setIfInBounds_toArray, List.set_cons_zero, List.set_cons_succ]
      refine q_do (by rfl) ?_
      refine q_pickF (v := .bool false) rfl rfl rfl ?_
      simp only [Act.put, List.setIfInBounds_toArray, List.set_cons_zero, List.set_cons_succ]
      refine q_do (by rfl) ?_
      refine q_move (v := .bool false) rfl rfl ?_
      simp only [Act.put, List.setIfInBounds_toArray, List.set_cons_zero, List.set_cons_succ]
      refine q_do (by rfl) ?_
      refine q_loadB rfl rfl (fun w h => (zp2_5).gr h) ?_
      simp only [Act.put, List.setIfInBounds_toArray, List.set_cons_zero, List.set_cons_succ]
      refine q_do (by rfl) ?_
      refine q_loadB rfl rfl (fun w h => (hp1_6_2).gr h) ?_
      simp only [Act.put, List.setIfInBounds_toArray, List.set_cons_zero, List.set_cons_succ]
      refine q_do (by rfl) ?_
      refine q_call2 rfl rfl rfl (fun w => by go_simp) (grc (fun w => k_in (syncM B1_2) B1_2 w) (by rw [inM_of sk.2.2 sk.2.1])) ?_
      simp only [Act.put, List.setIfInBounds_toArray, List.set_cons_zero, List.set_cons_succ]
      refine q_do (by rfl) ?_
      refine q_not (b := true) (c := false) rfl rfl rfl ?_
      simp only [Act.put, List.setIfInBounds_toArray, List.set_cons_zero, List.set_cons_succ]
      refine q_do (by rfl) ?_
      refine q_pickF (v := .bool false) rfl rfl rfl ?_
      simp only [Act.put, List.setIfInBounds_toArray, List.set_cons_zero, List.set_cons_succ]
      refine q_do (by rfl) ?_
      refine q_move (v := .bool false) rfl rfl ?_
      simp only [Act.put, List.setIfInBounds_toArray, List.set_cons_zero, List.set_cons_succ]
      refine q_do (by rfl) ?_
      refine q_loadB rfl rfl (fun w h => (zp2_6).gr h) ?_
      simp only [Act.put, List.setIfInBounds_toArray, List.set_cons_zero, List.set_cons_succ]
      refine q_do (by rfl) ?_
      refine q_loadB rfl rfl (fun w h => (hp1_6_2).gr h) ?_
      simp only [Act.put, List.setIfInBounds_toArray, List.set_cons_zero, List.set_cons_succ]
      refine q_do (by rfl) ?_
      refine q_call2 rfl rfl rfl (fun w => by go_simp) (grc (fun w => k_in (syncM (meetP B1_2 B1_5)) B1_2 w) (by rw [inM_of mk.2.2.2 mk.2.1])) ?_
      simp only [Act.put, List.setIfInBounds_toArray, List.set_cons_zero, List.set_cons_succ]
      refine q_do (by rfl) ?_
      refine q_not (b := true) (c := false) rfl rfl rfl ?_
      simp only [Act.put, List.setIfInBounds_toArray, List.set_cons_zero, List.set_cons_succ]
      refine q_do (by rfl) ?_
      refine q_pickF (v := .bool false) rfl rfl rfl ?_
      simp only [Act.put, List.setIfInBounds_toArray, List.set_cons_zero, List.set_cons_succ]
      refine q_do (by rfl) ?_
      refine q_move (v := .bool false) rfl rfl ?_
      simp only [Act.put, List.setIfInBounds_toArray, List.set_cons_zero, List.set_cons_succ]
      refine q_do (by rfl) ?_
      refine q_loadB rfl rfl (fun w h => (zp2_6).gr h) ?_
      simp only [Act.put, List.setIfInBounds_toArray, List.set_cons_zero, List.set_cons_succ]
      refine q_do (by rfl) ?_
      refine q_loadB rfl rfl (fun w h => (hp1_7_2).gr h) ?_
      simp only [Act.put, List.setIfInBounds_toArray, List.set_cons_zero, List.set_cons_succ]
      refine q_do (by rfl) ?_
      refine q_call2 rfl rfl rfl (fun w => by go_simp) (grc (fun w => k_in (syncM (meetP B1_2 B1_5)) B1_5 w) (by rw [inM_of mk.2.2.2 mk.2.2.1])) ?_
      simp only [Act.put, List.setIfInBounds_toArray, List.set_cons_zero, List.set_cons_succ]
      refine q_do (by rfl) ?_
      refine q_not (b := true) (c := false) rfl rfl rfl ?_
      simp only [Act.put, List.setIfInBounds_toArray, List.set_cons_zero, List.set_cons_succ]
      refine q_do (by rfl) ?_
      refine q_pickF (v := .bool false) rfl rfl rfl ?_
      simp only [Act.put, List.setIfInBounds_toArray, List.set_cons_zero, List.set_cons_succ]
      intro wq3 hq3
      have hXA_3 := (hXA_2).gr hq3
      have hXB_3 := (hXB_2).gr hq3
      have hp1_6_3 := (hp1_6_2).gr hq3
      have hp1_7_3 := (hp1_7_2).gr hq3
      have hp2_5_3 := (zp2_5).gr hq3
      have hp2_6_3 := (zp2_6).gr hq3
      have hF_3 := (hF_2).trans hq3
      go_upto_region 5 with fail
      obtain ⟨ha, hA⟩ : ∃ b, hasM B1_2 y = b := ⟨_, rfl⟩
      obtain ⟨hb, hB⟩ : ∃ b, hasM B1_5 y = b := ⟨_, rfl⟩
      cases ha with
      | false =>
        cases hb with
        | false =>
          refine wp_region_q (C := Gr wq3) (by kernel_rfl) (by kernel_rfl) (Gr.drew (Gr.refl _)) ?_
          refine q_do (by rfl) ?_
          refine q_loadB rfl rfl (fun w h => (hp2_5_3).gr h) ?_
          simp only [Act.put, List.setIfInBounds_toArray, List.set_cons_zero, List.set_cons_succ]
          refine q_do (by rfl) ?_
          refine q_move (v := .int .u64 (iv y)) rfl rfl ?_
          simp only [Act.put, List.setIfInBounds_toArray, List.set_cons_zero, List.set_cons_succ]
          refine q_do (by rfl) ?_
          refine q_call2 rfl rfl rfl (fun w => by go_simp) (grc (fun w => k_has (syncM B1_2) y w) (by rw [sync_same B1_2_0 B1_2_1, hA])) ?_
          simp only [Act.put, List.setIfInBounds_toArray, List.set_cons_zero, List.set_cons_succ]
          refine q_do (by rfl) ?_
          refine q_loadB rfl rfl (fun w h => (hp1_6_3).gr h) ?_
          simp only [Act.put, List.setIfInBounds_toArray, List.set_cons_zero, List.set_cons_succ]
          refine q_do (by rfl) ?_
          refine q_move (v := .int .u64 (iv y)) rfl rfl ?_
          simp only [Act.put, List.setIfInBounds_toArray, List.set_cons_zero, List.set_cons_succ]
          refine q_do (by rfl) ?_
          refine q_call2 rfl rfl rfl (fun w => by go_simp) (grc (fun w => k_has B1_2 y w) (by rw [hA])) ?_
          simp only [Act.put, List.setIfInBounds_toArray, List.set_cons_zero, List.set_cons_succ]
          refine q_do (by rfl) ?_
          refine q_eqB (b := false) (c := false) (r := true) rfl rfl rfl (rfl) ?_
          simp only [Act.put, List.setIfInBounds_toArray, List.set_cons_zero, List.set_cons_succ]
          refine q_do (by rfl) ?_
          refine q_move (v := .bool true) rfl rfl ?_
          simp only [Act.put, List.setIfInBounds_toArray, List.set_cons_zero, List.set_cons_succ]
          refine q_do (by rfl) ?_
          refine q_loadB rfl rfl (fun w h => (hp2_6_3).gr h) ?_
          simp only [Act.put, List.setIfInBounds_toArray, List.set_cons_zero, List.set_cons_succ]
          refine q_do (by rfl) ?_
          refine q_move (v := .int .u64 (iv y)) rfl rfl ?_
          simp only [Act.put, List.setIfInBounds_toArray, List.set_cons_zero, List.set_cons_succ]
          refine q_do (by rfl) ?_
          refine q_call2 rfl rfl rfl (fun w => by go_simp) (grc (fun w => k_has (syncM (meetP B1_2 B1_5)) y w) (by rw [meet_same B1_2_0 B1_5_0 B1_2_1 B1_5_1, hA, hB])) ?_
          simp only [Act.put, List.setIfInBounds_toArray, List.set_cons_zero, List.set_cons_succ]
          refine q_do (by rfl) ?_
          refine q_loadB rfl rfl (fun w h => (hp1_6_3).gr h) ?_
          simp only [Act.put, List.setIfInBounds_toArray, List.set_cons_zero, List.set_cons_succ]
          refine q_do (by rfl) ?_
          refine q_move (v := .int .u64 (iv y)) rfl rfl ?_
          simp only [Act.put, List.setIfInBounds_toArray, List.set_cons_zero, List.set_cons_succ]
          refine q_do (by rfl) ?_
          refine q_call2 rfl rfl rfl (fun w => by go_simp) (grc (fun w => k_has B1_2 y w) (by rw [hA])) ?_
          simp only [Act.put, List.setIfInBounds_toArray, List.set_cons_zero, List.set_cons_succ]
          refine q_do (by rfl) ?_
          refine q_move (v := .bool false) rfl rfl ?_
          simp only [Act.put, List.setIfInBounds_toArray, List.set_cons_zero, List.set_cons_succ]
          refine q_skip (by rfl) ?_
          simp only [Act.put, List.setIfInBounds_toArray, List.set_cons_zero, List.set_cons_succ]
          refine q_skip (by rfl) ?_
          simp only [Act.put, List.setIfInBounds_toArray, List.set_cons_zero, List.set_cons_succ]
          refine q_skip (by rfl) ?_
          simp only [Act.put, List.setIfInBounds_toArray, List.set_cons_zero, List.set_cons_succ]
          refine q_do (by rfl) ?_
          refine q_pickF (v := .bool false) rfl rfl rfl ?_
          simp only [Act.put, List.setIfInBounds_toArray, List.set_cons_zero, List.set_cons_succ]
          refine q_do (by rfl) ?_
          refine q_eqB (b := false) (c := false) (r := true) rfl rfl rfl (rfl) ?_
          simp only [Act.put, List.setIfInBounds_toArray, List.set_cons_zero, List.set_cons_succ]
          refine q_do (by rfl) ?_
          refine q_pickT (v := .bool true) rfl rfl rfl ?_
          simp only [Act.put, List.setIfInBounds_toArray, List.set_cons_zero, List.set_cons_succ]
          refine q_do (by rfl) ?_
          refine q_move (v := .bool true) rfl rfl ?_
          simp only [Act.put, List.setIfInBounds_toArray, List.set_cons_zero, List.set_cons_succ]
          refine q_do (by rfl) ?_
          refine q_call0 rfl (fun w => by go_simp) (grc (fun w => works_any w) (rfl)) ?_
          simp only [Act.put, List.setIfInBounds_toArray, List.set_cons_zero, List.set_cons_succ]
          refine q_do (by rfl) ?_
          refine q_pickT (v := .bool true) rfl rfl rfl ?_
          simp only [Act.put, List.setIfInBounds_toArray, List.set_cons_zero, List.set_cons_succ]
          refine q_do (by rfl) ?_
          refine q_assign (v := .bool true) rfl rfl ?_
          simp only [Act.put, List.setIfInBounds_toArray, List.set_cons_zero, List.set_cons_succ]
          intro wq4 hq4
          have hXA_4 := (hXA_3).gr hq4
          have hXB_4 := (hXB_3).gr hq4
          have hp1_6_4 := (hp1_6_3).gr hq4
          have hp1_7_4 := (hp1_7_3).gr hq4
          have hp2_5_4 := (hp2_5_3).gr hq4
          have hp2_6_4 := (hp2_6_3).gr hq4
          have hF_4 := (hF_3).trans hq4
          go_wp2
          go_ret
          exact ⟨rfl, hF_4⟩
        | true =>
          refine wp_region_q (C := Gr wq3) (by kernel_rfl) (by kernel_rfl) (Gr.drew (Gr.refl _)) ?_
          refine q_do (by rfl) ?_
          refine q_loadB rfl rfl (fun w h => (hp2_5_3).gr h) ?_
          simp only [Act.put, List.setIfInBounds_toArray, List.set_cons_zero, List.set_cons_succ]
          refine q_do (by rfl) ?_
          refine q_move (v := .int .u64 (iv y)) rfl rfl ?_
          simp only [Act.put, List.setIfInBounds_toArray, List.set_cons_zero, List.set_cons_succ]
          refine q_do (by rfl) ?_
          refine q_call2 rfl rfl rfl (fun w => by go_simp) (grc (fun w => k_has (syncM B1_2) y w) (by rw [sync_same B1_2_0 B1_2_1, hA])) ?_
          simp only [Act.put, List.setIfInBounds_toArray, List.set_cons_zero, List.set_cons_succ]
          refine q_do (by rfl) ?_
          refine q_loadB rfl rfl (fun w h => (hp1_6_3).gr h) ?_
          simp only [Act.put, List.setIfInBounds_toArray, List.set_cons_zero, List.set_cons_succ]
          refine q_do (by rfl) ?_
          refine q_move (v := .int .u64 (iv y)) rfl rfl ?_
          simp only [Act.put, List.setIfInBounds_toArray, List.set_cons_zero, List.set_cons_succ]
          refine q_do (by rfl) ?_
          refine q_call2 rfl rfl rfl (fun w => by go_simp) (grc (fun w => k_has B1_2 y w) (by rw [hA])) ?_
          simp only [Act.put, List.setIfInBounds_toArray, List.set_cons_zero, List.set_cons_succ]
          refine q_do (by rfl) ?_
          refine q_eqB (b := false) (c := false) (r := true) rfl rfl rfl (rfl) ?_
          simp only [Act.put, List.setIfInBounds_toArray, List.set_cons_zero, List.set_cons_succ]
          refine q_do (by rfl) ?_
          refine q_move (v := .bool true) rfl rfl ?_
          simp only [Act.put, List.setIfInBounds_toArray, List.set_cons_zero, List.set_cons_succ]
          refine q_do (by rfl) ?_
          refine q_loadB rfl rfl (fun w h => (hp2_6_3).gr h) ?_
          simp only [Act.put, List.setIfInBounds_toArray, List.set_cons_zero, List.set_cons_succ]
          refine q_do (by rfl) ?_
          refine q_move (v := .int .u64 (iv y)) rfl rfl ?_
          simp only [Act.put, List.setIfInBounds_toArray, List.set_cons_zero, List.set_cons_succ]
          refine q_do (by rfl) ?_
          refine q_call2 rfl rfl rfl (fun w => by go_simp) (grc (fun w => k_has (syncM (meetP B1_2 B1_5)) y w) (by rw [meet_same B1_2_0 B1_5_0 B1_2_1 B1_5_1, hA, hB])) ?_
          simp only [Act.put, List.setIfInBounds_toArray, List.set_cons_zero, List.set_cons_succ]
          refine q_do (by rfl) ?_
          refine q_loadB rfl rfl (fun w h => (hp1_6_3).gr h) ?_
          simp only [Act.put, List.setIfInBounds_toArray, List.set_cons_zero, List.set_cons_succ]
          refine q_do (by rfl) ?_
          refine q_move (v := .int .u64 (iv y)) rfl rfl ?_
          simp only [Act.put, List.setIfInBounds_toArray, List.set_cons_zero, List.set_cons_succ]
          refine q_do (by rfl) ?_
          refine q_call2 rfl rfl rfl (fun w => by go_simp) (grc (fun w => k_has B1_2 y w) (by rw [hA])) ?_
          simp only [Act.put, List.setIfInBounds_toArray, List.set_cons_zero, List.set_cons_succ]
          refine q_do (by rfl) ?_
          refine q_move (v := .bool false) rfl rfl ?_
          simp only [Act.put, List.setIfInBounds_toArray, List.set_cons_zero, List.set_cons_succ]
          refine q_skip (by rfl) ?_
          simp only [Act.put, List.setIfInBounds_toArray, List.set_cons_zero, List.set_cons_succ]
          refine q_skip (by rfl) ?_
          simp only [Act.put, List.setIfInBounds_toArray, List.set_cons_zero, List.set_cons_succ]
          refine q_skip (by rfl) ?_
          simp only [Act.put, List.setIfInBounds_toArray, List.set_cons_zero, List.set_cons_succ]
          refine q_do (by rfl) ?_
          refine q_pickF (v := .bool false) rfl rfl rfl ?_
          simp only [Act.put, List.setIfInBounds_toArray, List.set_cons_zero, List.set_cons_succ]
          refine q_do (by rfl) ?_
          refine q_eqB (b := false) (c := false) (r := true) rfl rfl rfl (rfl) ?_
          simp only [Act.put, List.setIfInBounds_toArray, List.set_cons_zero, List.set_cons_succ]
          refine q_do (by rfl) ?_
          refine q_pickT (v := .bool true) rfl rfl rfl ?_
          simp only [Act.put, List.setIfInBounds_toArray, List.set_cons_zero, List.set_cons_succ]
          refine q_do (by rfl) ?_
          refine q_move (v := .bool true) rfl rfl ?_
          simp only [Act.put, List.setIfInBounds_toArray, List.set_cons_zero, List.set_cons_succ]
          refine q_do (by rfl) ?_
          refine q_call0 rfl (fun w => by go_simp) (grc (fun w => works_any w) (rfl)) ?_
          simp only [Act.put, List.setIfInBounds_toArray, List.set_cons_zero, List.set_cons_succ]
          refine q_do (by rfl) ?_
          refine q_pickT (v := .bool true) rfl rfl rfl ?_
          simp only [Act.put, List.setIfInBounds_toArray, List.set_cons_zero, List.set_cons_succ]
          refine q_do (by rfl) ?_
          refine q_assign (v := .bool true) rfl rfl ?_
          simp only [Act.put, List.setIfInBounds_toArray, List.set_cons_zero, List.set_cons_succ]
          intro wq5 hq5
          have hXA_5 := (hXA_3).gr hq5
          have hXB_5 := (hXB_3).gr hq5
          have hp1_6_5 := (hp1_6_3).gr hq5
          have hp1_7_5 := (hp1_7_3).gr hq5
          have hp2_5_5 := (hp2_5_3).gr hq5
          have hp2_6_5 := (hp2_6_3).gr hq5
          have hF_5 := (hF_3).trans hq5
          go_wp2
          go_ret
          exact ⟨rfl, hF_5⟩
      | true =>
        cases hb with
        | false =>
          refine wp_region_q (C := Gr wq3) (by kernel_rfl) (by kernel_rfl) (Gr.drew (Gr.refl _)) ?_
          refine q_do (by rfl) ?_
          refine q_loadB rfl rfl (fun w h => (hp2_5_3).gr h) ?_
          simp only [Act.put, List.setIfInBounds_toArray, List.set_cons_zero, List.set_cons_succ]
          refine q_do (by rfl) ?_
          refine q_move (v := .int .u64 (iv y)) rfl rfl ?_
          simp only [Act.put, List.setIfInBounds_toArray, List.set_cons_zero, List.set_cons_succ]
          refine q_do (by rfl) ?_
          refine q_call2 rfl rfl rfl (fun w => by go_simp) (grc (fun w => k_has (syncM B1_2) y w) (by rw [sync_same B1_2_0 B1_2_1, hA])) ?_
          simp only [Act.put, List.setIfInBounds_toArray, List.set_cons_zero, List.set_cons_succ]
          refine q_do (by rfl) ?_
          refine q_loadB rfl rfl (fun w h => (hp1_6_3).gr h) ?_
          simp only [Act.put, List.setIfInBounds_toArray, List.set_cons_zero, List.set_cons_succ]
          refine q_do (by rfl) ?_
          refine q_move (v := .int .u64 (iv y)) rfl rfl ?_
          simp only [Act.put, List.setIfInBounds_toArray, List.set_cons_zero, List.set_cons_succ]
          refine q_do (by rfl) ?_
          refine q_call2 rfl rfl rfl (fun w => by go_simp) (grc (fun w => k_has B1_2 y w) (by rw [hA])) ?_
          simp only [Act.put, List.setIfInBounds_toArray, List.set_cons_zero, List.set_cons_succ]
          refine q_do (by rfl) ?_
          refine q_eqB (b := true) (c := true) (r := true) rfl rfl rfl (rfl) ?_
          simp only [Act.put, List.setIfInBounds_toArray, List.set_cons_zero, List.set_cons_succ]
          refine q_do (by rfl) ?_
          refine q_move (v := .bool true) rfl rfl ?_
          simp only [Act.put, List.setIfInBounds_toArray, List.set_cons_zero, List.set_cons_succ]
          refine q_do (by rfl) ?_
          refine q_loadB rfl rfl (fun w h => (hp2_6_3).gr h) ?_
          simp only [Act.put, List.setIfInBounds_toArray, List.set_cons_zero, List.set_cons_succ]
          refine q_do (by rfl) ?_
          refine q_move (v := .int .u64 (iv y)) rfl rfl ?_
          simp only [Act.put, List.setIfInBounds_toArray, List.set_cons_zero, List.set_cons_succ]
          refine q_do (by rfl) ?_
          refine q_call2 rfl rfl rfl (fun w => by go_simp) (grc (fun w => k_has (syncM (meetP B1_2 B1_5)) y w) (by rw [meet_same B1_2_0 B1_5_0 B1_2_1 B1_5_1, hA, hB])) ?_
          simp only [Act.put, List.setIfInBounds_toArray, List.set_cons_zero, List.set_cons_succ]
          refine q_do (by rfl) ?_
          refine q_loadB rfl rfl (fun w h => (hp1_6_3).gr h) ?_
          simp only [Act.put, List.setIfInBounds_toArray, List.set_cons_zero, List.set_cons_succ]
          refine q_do (by rfl) ?_
          refine q_move (v := .int .u64 (iv y)) rfl rfl ?_
          simp only [Act.put, List.setIfInBounds_toArray, List.set_cons_zero, List.set_cons_succ]
          refine q_do (by rfl) ?_
          refine q_call2 rfl rfl rfl (fun w => by go_simp) (grc (fun w => k_has B1_2 y w) (by rw [hA])) ?_
          simp only [Act.put, List.setIfInBounds_toArray, List.set_cons_zero, List.set_cons_succ]
          refine q_do (by rfl) ?_
          refine q_move (v := .bool true) rfl rfl ?_
          simp only [Act.put, List.setIfInBounds_toArray, List.set_cons_zero, List.set_cons_succ]
          refine q_do (by rfl) ?_
          refine q_loadB rfl rfl (fun w h => (hp1_7_3).gr h) ?_
          simp only [Act.put, List.setIfInBounds_toArray, List.set_cons_zero, List.set_cons_succ]
          refine q_do (by rfl) ?_
          refine q_move (v := .int .u64 (iv y)) rfl rfl ?_
          simp only [Act.put, List.setIfInBounds_toArray, List.set_cons_zero, List.set_cons_succ]
          refine q_do (by rfl) ?_
          refine q_call2 rfl rfl rfl (fun w => by go_simp) (grc (fun w => k_has B1_5 y w) (by rw [hB])) ?_
          simp only [Act.put, List.setIfInBounds_toArray, List.set_cons_zero, List.set_cons_succ]
          refine q_do (by rfl) ?_
          refine q_pickT (v := .bool false) rfl rfl rfl ?_
          simp only [Act.put, List.setIfInBounds_toArray, List.set_cons_zero, List.set_cons_succ]
          refine q_do (by rfl) ?_
          refine q_eqB (b := false) (c := false) (r := true) rfl rfl rfl (rfl) ?_
          simp only [Act.put, List.setIfInBounds_toArray, List.set_cons_zero, List.set_cons_succ]
          refine q_do (by rfl) ?_
          refine q_pickT (v := .bool true) rfl rfl rfl ?_
          simp only [Act.put, List.setIfInBounds_toArray, List.set_cons_zero, List.set_cons_succ]
          refine q_do (by rfl) ?_
          refine q_move (v := .bool true) rfl rfl ?_
          simp only [Act.put, List.setIfInBounds_toArray, List.set_cons_zero, List.set_cons_succ]
          refine q_do (by rfl) ?_
          refine q_call0 rfl (fun w => by go_simp) (grc (fun w => works_any w) (rfl)) ?_
          simp only [Act.put, List.setIfInBounds_toArray, List.set_cons_zero, List.set_cons_succ]
          refine q_do (by rfl) ?_
          refine q_pickT (v := .bool true) rfl rfl rfl ?_
          simp only [Act.put, List.setIfInBounds_toArray, List.set_cons_zero, List.set_cons_succ]
          refine q_do (by rfl) ?_
          refine q_assign (v := .bool true) rfl rfl ?_
          simp only [Act.put, List.setIfInBounds_toArray, List.set_cons_zero, List.set_cons_succ]
          intro wq6 hq6
          have hXA_6 := (hXA_3).gr hq6
          have hXB_6 := (hXB_3).gr hq6
          have hp1_6_6 := (hp1_6_3).gr hq6
          have hp1_7_6 := (hp1_7_3).gr hq6
          have hp2_5_6 := (hp2_5_3).gr hq6
          have hp2_6_6 := (hp2_6_3).gr hq6
          have hF_6 := (hF_3).trans hq6
          go_wp2
          go_ret
          exact ⟨rfl, hF_6⟩
        | true =>
          refine wp_region_q (C := Gr wq3) (by kernel_rfl) (by kernel_rfl) (Gr.drew (Gr.refl _)) ?_
          refine q_do (by rfl) ?_
          refine q_loadB rfl rfl (fun w h => (hp2_5_3).gr h) ?_
          simp only [Act.put, List.setIfInBounds_toArray, List.set_cons_zero, List.set_cons_succ]
          refine q_do (by rfl) ?_
          refine q_move (v := .int .u64 (iv y)) rfl rfl ?_
          simp only [Act.put, List.setIfInBounds_toArray, List.set_cons_zero, List.set_cons_succ]
          refine q_do (by rfl) ?_
          refine q_call2 rfl rfl rfl (fun w => by go_simp) (grc (fun w => k_has (syncM B1_2) y w) (by rw [sync_same B1_2_0 B1_2_1, hA])) ?_
          simp only [Act.put, List.setIfInBounds_toArray, List.set_cons_zero, List.set_cons_succ]
          refine q_do (by rfl) ?_
          refine q_loadB rfl rfl (fun w h => (hp1_6_3).gr h) ?_
          simp only [Act.put, List.setIfInBounds_toArray, List.set_cons_zero, List.set_cons_succ]
          refine q_do (by rfl) ?_
          refine q_move (v := .int .u64 (iv y)) rfl rfl ?_
          simp only [Act.put, List.setIfInBounds_toArray, List.set_cons_zero, List.set_cons_succ]
          refine q_do (by rfl) ?_
          refine q_call2 rfl rfl rfl (fun w => by go_simp) (grc (fun w => k_has B1_2 y w) (by rw [hA])) ?_
          simp only [Act.put, List.setIfInBounds_toArray, List.set_cons_zero, List.set_cons_succ]
          refine q_do (by rfl) ?_
          refine q_eqB (b := true) (c := true) (r := true) rfl rfl rfl (rfl) ?_
          simp only [Act.put, List.setIfInBounds_toArray, List.set_cons_zero, List.set_cons_succ]
          refine q_do (by rfl) ?_
          refine q_move (v := .bool true) rfl rfl ?_
          simp only [Act.put, List.setIfInBounds_toArray, List.set_cons_zero, List.set_cons_succ]
          refine q_do (by rfl) ?_
          refine q_loadB rfl rfl (fun w h => (hp2_6_3).gr h) ?_
          simp only [Act.put, List.setIfInBounds_toArray, List.set_cons_zero, List.set_cons_succ]
          refine q_do (by rfl) ?_
          refine q_move (v := .int .u64 (iv y)) rfl rfl ?_
          simp only [Act.put, List.setIfInBounds_toArray, List.set_cons_zero, List.set_cons_succ]
          refine q_do (by rfl) ?_
          refine q_call2 rfl rfl rfl (fun w => by go_simp) (grc (fun w => k_has (syncM (meetP B1_2 B1_5)) y w) (by rw [meet_same B1_2_0 B1_5_0 B1_2_1 B1_5_1, hA, hB])) ?_
          simp only [Act.put, List.setIfInBounds_toArray, List.set_cons_zero, List.set_cons_succ]
          refine q_do (by rfl) ?_
          refine q_loadB rfl rfl (fun w h => (hp1_6_3).gr h) ?_
          simp only [Act.put, List.setIfInBounds_toArray, List.set_cons_zero, List.set_cons_succ]
          refine q_do (by rfl) ?_
          refine q_move (v := .int .u64 (iv y)) rfl rfl ?_
          simp only [Act.put, List.setIfInBounds_toArray, List.set_cons_zero, List.set_cons_succ]
          refine q_do (by rfl) ?_
          refine q_call2 rfl rfl rfl (fun w => by go_simp) (grc (fun w => k_has B1_2 y w) (by rw [hA])) ?_
          simp only [Act.put, List.setIfInBounds_toArray, List.set_cons_zero, List.set_cons_succ]
          refine q_do (by rfl) ?_
          refine q_move (v := .bool true) rfl rfl ?_
          simp only [Act.put, List.setIfInBounds_toArray, List.set_cons_zero, List.set_cons_succ]
          refine q_do (by rfl) ?_
          refine q_loadB rfl rfl (fun w h => (hp1_7_3).gr h) ?_
          simp only [Act.put, List.setIfInBounds_toArray, List.set_cons_zero, List.set_cons_succ]
          refine q_do (by rfl) ?_
          refine q_move (v := .int .u64 (iv y)) rfl rfl ?_
          simp only [Act.put, List.setIfInBounds_toArray, List.set_cons_zero, List.set_cons_succ]
          refine q_do (by rfl) ?_
          refine q_call2 rfl rfl rfl (fun w => by go_simp) (grc (fun w => k_has B1_5 y w) (by rw [hB])) ?_
          simp only [Act.put, List.setIfInBounds_toArray, List.set_cons_zero, List.set_cons_succ]
          refine q_do (by rfl) ?_
          refine q_pickT (v := .bool true) rfl rfl rfl ?_
          simp only [Act.put, List.setIfInBounds_toArray, List.set_cons_zero, List.set_cons_succ]
          refine q_do (by rfl) ?_
          refine q_eqB (b := true) (c := true) (r := true) rfl rfl rfl (rfl) ?_
          simp only [Act.put, List.setIfInBounds_toArray, List.set_cons_zero, List.set_cons_succ]
          refine q_do (by rfl) ?_
          refine q_pickT (v := .bool true) rfl rfl rfl ?_
          simp only [Act.put, List.setIfInBounds_toArray, List.set_cons_zero, List.set_cons_succ]
          refine q_do (by rfl) ?_
          refine q_move (v := .bool true) rfl rfl ?_
          simp only [Act.put, List.setIfInBounds_toArray, List.set_cons_zero, List.set_cons_succ]
          refine q_do (by rfl) ?_
          refine q_call0 rfl (fun w => by go_simp) (grc (fun w => works_any w) (rfl)) ?_
          simp only [Act.put, List.setIfInBounds_toArray, List.set_cons_zero, List.set_cons_succ]
          refine q_do (by rfl) ?_
          refine q_pickT (v := .bool true) rfl rfl rfl ?_
          simp only [Act.put, List.setIfInBounds_toArray, List.set_cons_zero, List.set_cons_succ]
          refine q_do (by rfl) ?_
          refine q_assign (v := .bool true) rfl rfl ?_
          simp only [Act.put, List.setIfInBounds_toArray, List.set_cons_zero, List.set_cons_succ]
          intro wq7 hq7
          have hXA_7 := (hXA_3).gr hq7
          have hXB_7 := (hXB_3).gr hq7
          have hp1_6_7 := (hp1_6_3).gr hq7
          have hp1_7_7 := (hp1_7_3).gr hq7
          have hp2_5_7 := (hp2_5_3).gr hq7
          have hp2_6_7 := (hp2_6_3).gr hq7
          have hF_7 := (hF_3).trans hq7
          go_wp2
          go_ret
          exact ⟨rfl, hF_7⟩
end Go.Proofs.YtekenpgagfmgkaaGreat
