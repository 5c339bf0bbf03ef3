/- Towards the statements of package types (layer 10): alive. -/
import Derived.Test.YtmcjmdoeafhjpaaTV
namespace Go.Proofs.Ytmcjmdoeafhjpaa
open Go.ChangeShapes Go.WideShapes Go.ChangeAt
open Go.RowKit Go.Shelf
set_option linter.unusedVariables false
set_option linter.unusedSimpArgs false
set_option maxRecDepth 20000

abbrev mTy2 (b : Nat) : Ty := ⟨⟨#[109]⟩, 32, some ⟨b + 1, 5, none⟩, 1, [hFd]⟩
abbrev n4Fd : Fd := ⟨⟨#[110]⟩, 3, 4, 0, 0⟩
abbrev aTy2 (b : Nat) : Ty := ⟨⟨#[97]⟩, 24, some ⟨b, 0, none⟩, 1, [n4Fd]⟩
theorem chk_two (b : Nat) : chkM [aTy b, mTy2 b] = (1, 0, 106) := by kernel_rfl
theorem chk_three (b : Nat) : (chkM [aTy2 b, mTy b]).2.2 = 103 := by kernel_rfl
theorem fit_of {L : List Ty} (h : ∀ t ∈ L, t.n.size ≤ 1 ∧ ∀ x ∈ t.fs, x.n.size ≤ 1) : Fit L := fun t ht => ⟨Nat.le_trans (h t ht).1 (by decide), fun x hx => Nat.le_trans ((h t ht).2 x hx) (by decide)⟩
theorem fit_two (b : Nat) : Fit [aTy b, mTy2 b] := fit_of (by
  intro t ht
  simp at ht
  rcases ht with rfl | rfl
  · exact ⟨Nat.le_refl 1, by intro x hx; simp at hx; subst hx; exact Nat.le_refl 1⟩
  · exact ⟨Nat.le_refl 1, by intro x hx; simp at hx; subst hx; exact Nat.le_refl 1⟩)
theorem fit_three (b : Nat) : Fit [aTy2 b, mTy b] := fit_of (by
  intro t ht
  simp at ht
  rcases ht with rfl | rfl
  · exact ⟨Nat.le_refl 1, by intro x hx; simp at hx; subst hx; exact Nat.le_refl 1⟩
  · exact ⟨Nat.le_refl 1, by intro x hx; simp at hx; rcases hx with rfl | rfl <;> exact Nat.le_refl 1⟩)
theorem setc_below {w : World} {k j n : Nat} (u : Value) (h : n ≤ k) : Below n w (w.setCell ⟨k, j, none⟩ u) :=
  ⟨rfl, rfl, rfl, by rw [setc_size]; exact Nat.le_refl _, fun i hi => setc_other u (by omega)⟩
theorem Sm.cells {B : Nat} {w : World} (h : Sm B w) : w.cell? ⟨B + 2, 0, none⟩ = some (.string ⟨#[97]⟩) ∧ w.cell? ⟨B + 2, 1, none⟩ = some (.int .i64 24) ∧ w.cell? ⟨B + 2, 2, none⟩ = some (.slice (some ⟨B, 0, none⟩) 1 1) ∧ w.cell? ⟨B + 2, 3, none⟩ = some (.string ⟨#[109]⟩) ∧ w.cell? ⟨B + 2, 4, none⟩ = some (.int .i64 32) ∧ w.cell? ⟨B + 2, 5, none⟩ = some (.slice (some ⟨B + 1, 0, none⟩) 2 2) := by
  refine ⟨?_, ?_, ?_, ?_, ?_, ?_⟩ <;> rw [cell_at h.t] <;> rfl
theorem enc_small_size (b : Nat) : (encM (smallL b)).toArray.size = 27 := by kernel_rfl
theorem of_small (b : Nat) : firstI (fun t : Ty => t.n.toList == (⟨#[109]⟩ : ByteArray).toList) (smallL b) = 1 ∧ ((smallL b).any fun t => t.n.toList == (⟨#[109]⟩ : ByteArray).toList) = true := ⟨by kernel_rfl, by kernel_rfl⟩
theorem at_small : firstI (fun x : Fd => x.a == 8) [lFd, hFd] = 1 ∧ ([lFd, hFd].any fun x => x.a == 8) = true := ⟨by kernel_rfl, by kernel_rfl⟩
theorem plain_small : plainM 24 [nFd] 16 8 = true ∧ plainM 24 [nFd] 8 8 = false := ⟨by kernel_rfl, by kernel_rfl⟩
theorem obj_small : objM [nFd] = true ∧ objM [lFd, hFd] = false := ⟨by kernel_rfl, by kernel_rfl⟩
set_option maxHeartbeats 16000000 in
theorem alive_any (w : World) : Calls Try.prog 9 #[] w fun e w' => e = .returned (.bool true) ∧ Bl w w' := by
  have ksm := fun W => small_any W
  have kc1 := fun W B (h : Tys W (some ⟨B + 2, 0, none⟩) (smallL B)) => check_any (some ⟨B + 2, 0, none⟩) 2 (smallL B) ⟨by show 2 ≤ 2; omega, by unfold maxLen; omega⟩ W h (fit_small B)
  simp only [chk_small] at kc1
  go_enter Try.func9, Try.ntmps9
  go_upto_region 2 with (go_at_call 25; refine (ksm _).mono ?_; rintro e w1 ⟨rfl, hS1, hb1⟩)
  generalize w.heap.size = B1 at hS1 ⊢
  go_upto_region 3 with (go_at_call 16; refine (kc1 _ B1 hS1.tys).mono ?_; unfold chkV; rintro e w2 ⟨rfl, hb2⟩)
  replace hS1 := hS1.gr hb2
  replace hb1 := hb1.trans hb2
  clear hb2
  generalize hB2 : w2.heap.size = B2
  go_upto_region 4 with (go_at_call 25; refine (ksm _).mono ?_; rintro e w3 ⟨rfl, hS2, hb3⟩)
  rw [hB2] at hS2
  have t5 : w3.cell? ⟨B2 + 2, 5, none⟩ = some (.slice (some ⟨B2 + 1, 0, none⟩) 2 2) := by rw [cell_at hS2.t]; rfl
  have f5 := froz_at (j := 5) hS2.t
  replace hB2 : Hid (w2.heap.size = B2) := hB2
  go_upto_region 5 with fail
  have hset : Bl w2 (w3.setCell ⟨B2 + 2, 5, none⟩ (.slice (some ⟨B2 + 1, 5, none⟩) 1 1)) := hb3.trans' (setc_below _ (by have := hB2.out; omega)) (Nat.le_refl _)
  have hA4 : (w3.setCell ⟨B2 + 2, 5, none⟩ (.slice (some ⟨B2 + 1, 5, none⟩) 1 1)).heap[B2]? = _ := (setc_other _ (by omega)).trans hS2.a
  have hM4 : (w3.setCell ⟨B2 + 2, 5, none⟩ (.slice (some ⟨B2 + 1, 5, none⟩) 1 1)).heap[B2 + 1]? = _ := (setc_other _ (by omega)).trans hS2.m
  have hT4 := setc_heap (j := 5) (.slice (some ⟨B2 + 1, 5, none⟩) 1 1) hS2.t
  generalize (w3.setCell ⟨B2 + 2, 5, none⟩ (.slice (some ⟨B2 + 1, 5, none⟩) 1 1)) = W4 at hset hA4 hM4 hT4 ⊢
  replace hS1 := hS1.gr hset
  replace hb1 := hb1.trans hset
  have hty2 : Tys W4 (some ⟨B2 + 2, 0, none⟩) [aTy B2, mTy2 B2] := tys2 (t := aTy B2) (u := mTy2 B2) hT4 ⟨by simp [maxLen, ByteArray.size], ⟨by dsimp only; decide, by dsimp only; decide⟩, ⟨by simp, by simp [maxLen]⟩, flds1 (x := nFd) hA4 nok⟩ ⟨by simp [maxLen, ByteArray.size], ⟨by dsimp only; decide, by dsimp only; decide⟩, ⟨by simp, by simp [maxLen]⟩, (flds2 (x := lFd) (y := hFd) hM4 lok hok).2⟩
  have kc2 := check_any (some ⟨B2 + 2, 0, none⟩) 2 [aTy B2, mTy2 B2] ⟨by show 2 ≤ 2; omega, by unfold maxLen; omega⟩ W4 hty2 (fit_two B2)
  rw [chk_two] at kc2
  clear hset hA4 hM4 hT4 hS2 hb3 t5 f5
  go_upto_region 6 with (go_at_call 16; refine kc2.mono ?_; unfold chkV; rintro e w5 ⟨rfl, hb5⟩)
  replace hS1 := hS1.gr hb5
  replace hb1 := hb1.trans hb5
  clear hb5 kc2 hty2 hB2
  generalize hB3 : w5.heap.size = B3
  go_upto_region 7 with (go_at_call 25; refine (ksm _).mono ?_; rintro e w6 ⟨rfl, hS3, hb6⟩)
  rw [hB3] at hS3
  have t2 : w6.cell? ⟨B3 + 2, 2, none⟩ = some (.slice (some ⟨B3, 0, none⟩) 1 1) := by rw [cell_at hS3.t]; rfl
  have a2 : w6.cell? ⟨B3, 2, none⟩ = some (.int .i64 0) := by rw [cell_at hS3.a]; rfl
  have g2 := froz_at (j := 2) hS3.a
  replace hB3 : Hid (w5.heap.size = B3) := hB3
  go_upto_region 8 with fail
  have hset : Bl w5 (w6.setCell ⟨B3, 2, none⟩ (.int .i64 4)) := hb6.trans' (setc_below _ (by have := hB3.out; omega)) (Nat.le_refl _)
  have hM7 : (w6.setCell ⟨B3, 2, none⟩ (.int .i64 4)).heap[B3 + 1]? = _ := (setc_other _ (by omega)).trans hS3.m
  have hT7 : (w6.setCell ⟨B3, 2, none⟩ (.int .i64 4)).heap[B3 + 2]? = _ := (setc_other _ (by omega)).trans hS3.t
  have hA7 := setc_heap (j := 2) (.int .i64 4) hS3.a
  generalize (w6.setCell ⟨B3, 2, none⟩ (.int .i64 4)) = W7 at hset hA7 hM7 hT7 ⊢
  replace hS1 := hS1.gr hset
  replace hb1 := hb1.trans hset
  have hty3 : Tys W7 (some ⟨B3 + 2, 0, none⟩) [aTy2 B3, mTy B3] := tys2 (t := aTy2 B3) (u := mTy B3) hT7 ⟨by simp [maxLen, ByteArray.size], ⟨by dsimp only; decide, by dsimp only; decide⟩, ⟨by simp, by simp [maxLen]⟩, flds1 (x := n4Fd) hA7 (fdok _ (by decide) (by decide) (by decide) (by decide) (by decide))⟩ ⟨by simp [maxLen, ByteArray.size], ⟨by dsimp only; decide, by dsimp only; decide⟩, ⟨by simp, by simp [maxLen]⟩, (flds2 (x := lFd) (y := hFd) hM7 lok hok).1⟩
  have kc3 := check_any (some ⟨B3 + 2, 0, none⟩) 2 [aTy2 B3, mTy B3] ⟨by show 2 ≤ 2; omega, by unfold maxLen; omega⟩ W7 hty3 (fit_three B3)
  have hr3 := chk_three B3
  generalize chkM [aTy2 B3, mTy B3] = r3 at kc3 hr3
  unfold chkV at kc3
  rw [hr3] at kc3
  clear hset hA7 hM7 hT7 hS3 hb6 t2 a2 g2 hr3
  go_upto_region 9 with (go_at_call 16; refine kc3.mono ?_; rintro e w8 ⟨rfl, hb8⟩)
  replace hS1 := hS1.gr hb8
  replace hb1 := hb1.trans hb8
  clear hb8 kc3 hty3 hB3
  have ken := encode_any (some ⟨B1 + 2, 0, none⟩) 2 (smallL B1) w8 hS1.tys
  rw [are_small] at ken
  simp only [if_true] at ken
  have hdl : (⟨(encM (smallL B1)).toArray⟩ : ByteArray).data.toList = encM (smallL B1) := rfl
  have hsz : (⟨(encM (smallL B1)).toArray⟩ : ByteArray).size ≤ 1000 := by
    have := enc_small_size B1
    show (encM (smallL B1)).toArray.size ≤ 1000
    omega
  have kde := fun W => decode_any ⟨(encM (smallL B1)).toArray⟩ (by omega) W
  rw [hdl, dec_small] at kde
  have kdx := fun W => decode_any (⟨(encM (smallL B1)).toArray⟩ ++ ⟨#[120]⟩) (by rw [ByteArray.size_append]; show _ + 1 ≤ _; omega) W
  have hdx : ((⟨(encM (smallL B1)).toArray⟩ : ByteArray) ++ ⟨#[120]⟩).data.toList = encM (smallL B1) ++ [120] := by simp
  rw [hdx, dec_small'] at kdx
  generalize (⟨(encM (smallL B1)).toArray⟩ : ByteArray) = S at ken kde kdx hsz
  clear hdl hdx
  have hsz2 : ¬ 9223372036854775807 < S.size + 1 := by omega
  go_upto_region 10 with (go_at_call 10; refine ken.mono ?_; rintro e w9 ⟨rfl, hb9⟩)
  replace hS1 := hS1.gr hb9
  replace hb1 := hb1.trans hb9
  clear hb9 ken
  have kde2 : ∀ W, Calls Try.prog 12 #[.string S] W fun e w' => ∃ (p : Option Addr) (L : List Ty) (c : Nat), e = .returned (.tuple #[.slice p L.length c, .int .i64 0]) ∧ Tys w' p L ∧ L.map Ty.core = (smallL B1).map Ty.core ∧ Bl W w' := fun W => (kde W).mono fun e w' h => by
    obtain ⟨p, L, c, h1, h2, _, _, h3⟩ := h.1.2 _ rfl
    exact ⟨p, L, c, h1, h2, h3, h.2⟩
  have kdx2 : ∀ W, Calls Try.prog 12 #[.string (S ++ ⟨#[120]⟩)] W fun e w' => e = .returned (.tuple #[.slice none 0 0, .int .i64 8]) ∧ Bl W w' := fun W => (kdx W).mono fun e w' h => ⟨h.1.1 rfl, h.2⟩
  clear kde kdx
  go_upto_region 11 with (go_at_call 12; refine (kde2 _).mono ?_; rintro e w10 ⟨p5, L5, c5, rfl, hL5, hc5, hb10⟩)
  replace hS1 := hS1.gr hb10
  replace hb1 := hb1.trans hb10
  clear hb10 kde2
  go_upto_region 12 with (go_at_call 12; refine (kdx2 _).mono ?_; rintro e w11 ⟨rfl, hb11⟩)
  replace hS1 := hS1.gr hb11
  replace hb1 := hb1.trans hb11
  replace hL5 := hL5.gr hb11
  clear hb11 kdx2
  have kof := fun W (h : Sm B1 W) => of_any' (some ⟨B1 + 2, 0, none⟩) 2 (smallL B1) ⟨#[109]⟩ W h.tys
  simp only [(of_small B1).1, (of_small B1).2] at kof
  go_upto_region 13 with (go_at_call 18; refine (kof _ hS1).mono ?_; rintro e w12 ⟨rfl, hb12⟩)
  replace hS1 := hS1.gr hb12
  replace hb1 := hb1.trans hb12
  replace hL5 := hL5.gr hb12
  clear hb12 kof
  have kat := fun W (h : Sm B1 W) => at_any (mTy B1) 8 W h.mok.f
  simp only [at_small.1, at_small.2] at kat
  have s3 : w12.cell? ⟨B1 + 2, 3, none⟩ = some (.string ⟨#[109]⟩) := by rw [cell_at hS1.t]; rfl
  have s4 : w12.cell? ⟨B1 + 2, 4, none⟩ = some (.int .i64 32) := by rw [cell_at hS1.t]; rfl
  have s5 : w12.cell? ⟨B1 + 2, 5, none⟩ = some (.slice (some ⟨B1 + 1, 0, none⟩) 2 2) := by rw [cell_at hS1.t]; rfl
  go_upto_region 14 with (go_at_call 21; refine (kat _ hS1).mono ?_; rintro e w13 ⟨rfl, hb13⟩)
  replace hS1 := hS1.gr hb13
  replace hb1 := hb1.trans hb13
  replace hL5 := hL5.gr hb13
  clear hb13 kat s3 s4 s5
  obtain ⟨x0, x1, x2, x3, x4, x5⟩ := hS1.cells
  have ksame := fun V (h : Sm B1 V) (h5 : Tys V p5 L5) => tsame_any p5 (some ⟨B1 + 2, 0, none⟩) c5 2 L5 (smallL B1) V h5 h.tys
  have hsm : sameM L5 (smallL B1) = true := decide_eq_true hc5
  rw [hsm] at ksame
  have kp1 := fun V (h : Sm B1 V) => plain_any (aTy B1) 16 8 V (h.aok.f) ⟨by dsimp only; decide, by dsimp only; decide⟩ ⟨by decide, by decide⟩
  have kp2 := fun V (h : Sm B1 V) => plain_any (aTy B1) 8 8 V (h.aok.f) ⟨by dsimp only; decide, by dsimp only; decide⟩ ⟨by decide, by decide⟩
  simp only [plain_small.1] at kp1
  simp only [plain_small.2] at kp2
  have ko1 := fun V (h : Sm B1 V) => obj_any (aTy B1) V (h.aok.f)
  have ko2 := fun V (h : Sm B1 V) => obj_any (mTy B1) V (h.mok.f)
  simp only [obj_small.1] at ko1
  simp only [obj_small.2] at ko2
  have ksz := fun V => tsize_any 2 V
  simp only [show sizeM 2 = 16 from rfl] at ksz
  clear hc5 hsm
  go_wp2_with first | (go_at_call 15; refine (ksame _ hS1 hL5).mono ?_; rintro e v1 ⟨rfl, hb⟩; replace hS1 := hS1.gr hb; replace hb1 := hb1.trans hb; clear hb x0 x1 x2 x3 x4 x5; obtain ⟨x0, x1, x2, x3, x4, x5⟩ := hS1.cells) | (go_at_call_of 26 (Value.int IntKind.i64 16); refine (kp1 _ hS1).mono ?_; rintro e v2 ⟨rfl, hb⟩; replace hS1 := hS1.gr hb; replace hb1 := hb1.trans hb; clear hb x0 x1 x2 x3 x4 x5; obtain ⟨x0, x1, x2, x3, x4, x5⟩ := hS1.cells) | (go_at_call 26; refine (kp2 _ hS1).mono ?_; rintro e v3 ⟨rfl, hb⟩; replace hS1 := hS1.gr hb; replace hb1 := hb1.trans hb; clear hb x0 x1 x2 x3 x4 x5; obtain ⟨x0, x1, x2, x3, x4, x5⟩ := hS1.cells) | (go_at_call_of 23 (Value.int IntKind.i64 24); refine (ko1 _ hS1).mono ?_; rintro e v4 ⟨rfl, hb⟩; replace hS1 := hS1.gr hb; replace hb1 := hb1.trans hb; clear hb x0 x1 x2 x3 x4 x5; obtain ⟨x0, x1, x2, x3, x4, x5⟩ := hS1.cells) | (go_at_call 23; refine (ko2 _ hS1).mono ?_; rintro e v5 ⟨rfl, hb⟩; replace hS1 := hS1.gr hb; replace hb1 := hb1.trans hb; clear hb x0 x1 x2 x3 x4 x5; obtain ⟨x0, x1, x2, x3, x4, x5⟩ := hS1.cells) | (go_at_call 22; refine (ksz _).mono ?_; rintro e v6 ⟨rfl, hw⟩; rw [hw]; clear hw)
  go_returns
  exact ⟨rfl, hb1⟩
end Go.Proofs.Ytmcjmdoeafhjpaa
