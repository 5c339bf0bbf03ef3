/- Towards the statements of package cond (layer 6): what is known more of bits. -/
import Derived.Test.YtcbcijibgpaipaaGreatW3
import Derived.Test.YtcbcijibgpaipaaGreatMI
import Derived.Deep.DeepCutAuto
namespace Go.Proofs.YtcbcijibgpaipaaGreat
open Go.ChangeShapes Go.WideShapes Go.ChangeAt Go.RowKit
open Tn (iv)
set_option linter.unusedVariables false
set_option linter.unusedSimpArgs false
set_option maxRecDepth 20000

set_option maxHeartbeats 8000000 in
theorem k_know (a : Bd) (v m : BitVec 64) (q : Bool) (hq : Tn.meetX a.tv a.tm v m = q) (p : Nat) (w : World) (h : AtA w p (bv a) 30) : Calls Tryz.prog 240 #[.pointer (some ⟨p, 0, none⟩), .agg #[.int .u64 (iv v), .int .u64 (iv m)]] w fun e w' => e = .returned (.bool q) ∧ AtA w' p (bv { a with tv := Tn.mtV a.tv a.tm v m, tm := Tn.mtM a.tv a.tm v m }) 30 ∧ GrX p w w' := by
  have cm : ∀ w, Calls Tryz.prog 66 #[.agg #[.int .u64 (iv a.tv), .int .u64 (iv a.tm)], .agg #[.int .u64 (iv v), .int .u64 (iv m)]] w fun e w' => e = .returned (.tuple #[.agg #[.int .u64 (iv (Tn.mtV a.tv a.tm v m)), .int .u64 (iv (Tn.mtM a.tv a.tm v m))], .bool q]) ∧ Gr w w' := fun w => by
    have := cv (Tn.meet_any a.tv a.tm v m w)
    rw [hq] at this
    exact this
  go_enter Tryz.func240, Tryz.ntmps240
  go_upto_region 1 with fail
  have HA : AtA (w.alloc (.cells #[.int .u64 (iv v), .int .u64 (iv m)] 24)) p (bv a) 30 := h.alloc _
  have HM : AtA (w.alloc (.cells #[.int .u64 (iv v), .int .u64 (iv m)] 24)) w.heap.size #[.int .u64 (iv v), .int .u64 (iv m)] 24 := AtA.newb _ rfl _ _
  have HF : GrL [p] w (w.alloc (.cells #[.int .u64 (iv v), .int .u64 (iv m)] 24)) := GrL.of (Gr.alloc (Gr.refl w) _ _)
  have hpm : p ≠ w.heap.size := Nat.ne_of_lt h.lt
  have hfr : w.heap.size ≤ w.heap.size := Nat.le_refl _
  revert HA HM HF hpm hfr
  generalize (w.alloc (.cells #[.int .u64 (iv v), .int .u64 (iv m)] 24)) = W0
  generalize hPM : w.heap.size = PM
  intro HA HM HF hpm hfr
  rw [← hPM] at hfr
  refine wp_region_inv (by kernel_rfl) (fun L ac wx => ∃ (p1_8 : Nat), ac = ⟨(.pointer (some ⟨p, 0, none⟩) :: .agg #[.int .u64 (iv v), .int .u64 (iv m)] :: undef :: .pointer (some ⟨PM, 0, none⟩) :: .bool false :: sel (L 8) (.pointer (some ⟨p1_8, 0, none⟩)) (undef) :: sel (L 10) (.bool q) (undef) :: sel (L 5) (.tuple #[.agg #[.int .u64 (iv (Tn.mtV a.tv a.tm v m)), .int .u64 (iv (Tn.mtM a.tv a.tm v m))], .bool q]) (undef) :: sel (L 0) (.pointer (some ⟨p, 0, none⟩)) (undef) :: sel (L 1) (.pointer (some ⟨p, 0, none⟩)) (undef) :: sel (L 2) (.agg #[.int .u64 (iv a.tv), .int .u64 (iv a.tm)]) (undef) :: sel (L 3) (.agg #[.int .u64 (iv v), .int .u64 (iv m)]) (undef) :: sel (L 4) (.tuple #[.agg #[.int .u64 (iv (Tn.mtV a.tv a.tm v m)), .int .u64 (iv (Tn.mtM a.tv a.tm v m))], .bool q]) (undef) :: sel (L 6) (.agg #[.int .u64 (iv (Tn.mtV a.tv a.tm v m)), .int .u64 (iv (Tn.mtM a.tv a.tm v m))]) (undef) :: sel (L 7) (.bool q) (undef) :: undef :: undef :: undef :: undef :: [] : List Value).toArray, []⟩ ∧ GrL [] W0 wx ∧ (L 8 = true → W0.heap.size ≤ p1_8 ∧ AtA wx p1_8 (sel (L 9) (#[.int .u64 (iv (Tn.mtV a.tv a.tm v m)), .int .u64 (iv (Tn.mtM a.tv a.tm v m))]) (#[.int .u64 0, .int .u64 0])) 24) ∧ (L 9 = true → L 8 = true)) (by kernel_rfl) ?h0 ?step ?fin
  case h0 => exact ⟨0, rfl, GrL.of (Gr.drew (Gr.refl _)), (fun h => by cases h), (fun h => by cases h)⟩
  case step =>
    refine allOps_cons 0 ?_ ?_
    · refine kF rfl ?_
      rintro L ac wx hL hd ⟨p1_8, rfl, hG, f8, s9⟩
      refine wM (v := .pointer (some ⟨p, 0, none⟩)) rfl rfl ?_
      exact ⟨p1_8, rfl, hG, f8, s9⟩
    refine allOps_cons 1 ?_ ?_
    · refine kF rfl ?_
      rintro L ac wx hL hd ⟨p1_8, rfl, hG, f8, s9⟩
      obtain ⟨e0, -⟩ := hd
      refine wp_nil (r := ⟨p, 0, none⟩) rfl (sel_of (e0 rfl)) ?_
      exact ⟨p1_8, rfl, hG, f8, s9⟩
    refine allOps_cons 2 ?_ ?_
    · refine kF rfl ?_
      rintro L ac wx hL hd ⟨p1_8, rfl, hG, f8, s9⟩
      obtain ⟨e0, -⟩ := hd
      have HL := (HA).grl hG n0
      refine wp_pT (v0 := .int .u64 (iv a.tv)) (v1 := .int .u64 (iv a.tm)) rfl (sel_of (e0 rfl)) (HL) rfl rfl ?_
      exact ⟨p1_8, rfl, hG, f8, s9⟩
    refine allOps_cons 3 ?_ ?_
    · refine kF rfl ?_
      rintro L ac wx hL hd ⟨p1_8, rfl, hG, f8, s9⟩
      have HL := (HM).grl hG n0
      refine wp_pT (v0 := .int .u64 (iv v)) (v1 := .int .u64 (iv m)) rfl rfl (HL) rfl rfl ?_
      exact ⟨p1_8, rfl, hG, f8, s9⟩
    refine allOps_cons 4 ?_ ?_
    · refine kF rfl ?_
      rintro L ac wx hL hd ⟨p1_8, rfl, hG, f8, s9⟩
      obtain ⟨e0, e1, -⟩ := hd
      refine wp_call2 rfl (sel_of (e0 rfl)) (sel_of (e1 rfl)) (by go_simp) ?_
      refine ((cm) _).mono ?_
      rintro e w1 ⟨rfl, hg⟩
      refine ⟨_, rfl, ?_⟩
      exact ⟨p1_8, rfl, hG.then hg, fun h => ⟨(f8 h).1, (f8 h).2.gr hg⟩, s9⟩
    refine allOps_cons 5 ?_ ?_
    · refine kF rfl ?_
      rintro L ac wx hL hd ⟨p1_8, rfl, hG, f8, s9⟩
      obtain ⟨e0, -⟩ := hd
      refine wM (v := .tuple #[.agg #[.int .u64 (iv (Tn.mtV a.tv a.tm v m)), .int .u64 (iv (Tn.mtM a.tv a.tm v m))], .bool q]) rfl (sel_of (e0 rfl)) ?_
      exact ⟨p1_8, rfl, hG, f8, s9⟩
    refine allOps_cons 6 ?_ ?_
    · refine kF rfl ?_
      rintro L ac wx hL hd ⟨p1_8, rfl, hG, f8, s9⟩
      obtain ⟨e0, -⟩ := hd
      refine wp_extract (v := .agg #[.int .u64 (iv (Tn.mtV a.tv a.tm v m)), .int .u64 (iv (Tn.mtM a.tv a.tm v m))]) rfl (sel_of (e0 rfl)) rfl ?_
      exact ⟨p1_8, rfl, hG, f8, s9⟩
    refine allOps_cons 7 ?_ ?_
    · refine kF rfl ?_
      rintro L ac wx hL hd ⟨p1_8, rfl, hG, f8, s9⟩
      obtain ⟨e0, e1, -⟩ := hd
      refine wp_extract (v := .bool q) rfl (sel_of (e0 rfl)) rfl ?_
      exact ⟨p1_8, rfl, hG, f8, s9⟩
    refine allOps_cons 8 ?_ ?_
    · refine kF rfl ?_
      rintro L ac wx hL hd ⟨p1_8, rfl, hG, f8, s9⟩
      have ls : L 9 = false := by
        cases h : L 9 with
        | false => rfl
        | true => have := s9 h; rw [hL] at this; cases this
      refine wp_allocT rfl ?_
      intro w1 hn hg
      exact ⟨wx.heap.size, rfl, hG.then hg, fun _ => ⟨hG.size, by rw [show upd L 8 9 = false from ls]; exact hn⟩, fun _ => rfl⟩
    refine allOps_cons 9 ?_ ?_
    · refine kF rfl ?_
      rintro L ac wx hL hd ⟨p1_8, rfl, hG, f8, s9⟩
      obtain ⟨e0, e1, e2, e3, e4, e5, e6, e7, e8, e9, e10, e11, -⟩ := hd
      have lp : L 8 = true := e0 rfl
      obtain ⟨k8, z8⟩ := f8 lp
      have HL := z8; rw [hL] at HL
      refine wp_storeT rfl (sel_of (e0 rfl)) (sel_of (e1 rfl)) HL ?_
      intro w1 hn hgx
      exact ⟨p1_8, rfl, hG.thenx hgx (.inr k8), fun _ => ⟨k8, hn⟩, fun _ => lp⟩
    refine allOps_cons 10 ?_ ?_
    · refine kF rfl ?_
      rintro L ac wx hL hd ⟨p1_8, rfl, hG, f8, s9⟩
      obtain ⟨e0, e1, e2, e3, e4, e5, e6, e7, e8, e9, e10, e11, -⟩ := hd
      refine wA (v := .bool q) rfl (sel_of (e0 rfl)) ?_
      exact ⟨p1_8, rfl, hG, f8, s9⟩
    exact allOps_nil 11
  case fin =>
    rintro L ac wf1 hall ⟨p1_8, rfl, hG1, f8, s9⟩
    have l0 : L 0 = true := hall 0 (by decide)
    have l1 : L 1 = true := hall 1 (by decide)
    have l2 : L 2 = true := hall 2 (by decide)
    have l3 : L 3 = true := hall 3 (by decide)
    have l4 : L 4 = true := hall 4 (by decide)
    have l5 : L 5 = true := hall 5 (by decide)
    have l6 : L 6 = true := hall 6 (by decide)
    have l7 : L 7 = true := hall 7 (by decide)
    have l8 : L 8 = true := hall 8 (by decide)
    have l9 : L 9 = true := hall 9 (by decide)
    have l10 : L 10 = true := hall 10 (by decide)
    obtain ⟨kp1_8, zp1_8⟩ := f8 l8
    rw [l9] at zp1_8
    change AtA wf1 p1_8 (#[.int .u64 (iv (Tn.mtV a.tv a.tm v m)), .int .u64 (iv (Tn.mtM a.tv a.tm v m))]) 24 at zp1_8
    simp only [l0, l1, l2, l3, l4, l5, l6, l7, l8, l10, sel_t]
    have np_p1_8 : p ≠ p1_8 := Nat.ne_of_lt (Nat.lt_of_lt_of_le (HA).lt kp1_8)
    have nPM_p1_8 : PM ≠ p1_8 := Nat.ne_of_lt (Nat.lt_of_lt_of_le (HM).lt kp1_8)
    have frp1_8 := Nat.le_trans (HF).size kp1_8
    have hp_c1 := (HA).grl hG1 n0
    have hPM_c1 := (HM).grl hG1 n0
    have hF_c1 := (HF).app hG1 (r0 )
    clear l0 l1 l2 l3 l4 l5 l6 l7 l8 l9 l10 hall f8 s9
    go_upto_region 2 with fail
    refine rG ?_
    refine sF rfl ?_
    refine wM (v := .pointer (some ⟨p, 0, none⟩)) rfl rfl ?_
    simp only [Act.put, zs, z0, z1]
    refine sF rfl ?_
    refine wp_pT (v0 := .int .u64 (iv (Tn.mtV a.tv a.tm v m))) (v1 := .int .u64 (iv (Tn.mtM a.tv a.tm v m))) rfl rfl (zp1_8) rfl rfl ?_
    simp only [Act.put, zs, z0, z1]
    refine sF rfl ?_
    refine wp_nil (r := ⟨p, 0, none⟩) rfl rfl ?_
    simp only [Act.put, zs, z0, z1]
    refine sF rfl ?_
    refine wp_stT rfl rfl rfl (hp_c1) ?_
    intro ws2 hs2 gx2
    have hPM_2 := (hPM_c1).grx gx2 (Ne.symm hpm)
    have hp1_8_2 := (zp1_8).grx gx2 (Ne.symm np_p1_8)
    have hF_2 := (hF_c1).thenx gx2 (.inl m1)
    change AtA ws2 p (bv { a with tv := (Tn.mtV a.tv a.tm v m), tm := (Tn.mtM a.tv a.tm v m) }) 30 at hs2
    simp only [Act.put, zs, z0, z1]
    refine s_end ?_
    go_upto_region 3 with fail
    refine rG ?_
    refine sF rfl ?_
    refine wM (v := .bool q) rfl rfl ?_
    simp only [Act.put, zs, z0, z1]
    refine sF rfl ?_
    refine wA (v := .bool q) rfl rfl ?_
    simp only [Act.put, zs, z0, z1]
    refine s_end ?_
    go_wp2
    go_ret
    refine ⟨rfl, hs2, ?_⟩
    exact ⟨(hF_2).size, fun r h1 h2 => (hF_2).block r h1 (n1 h2), fun w0 g hp => (hF_2).gr w0 g (by simpa using hp)⟩
end Go.Proofs.YtcbcijibgpaipaaGreat
