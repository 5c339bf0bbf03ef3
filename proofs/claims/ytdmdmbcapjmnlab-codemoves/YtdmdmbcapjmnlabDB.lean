/- Towards the statements of package code (layer 8): contract of alive. -/
import Derived.Test.YtdmdmbcapjmnlabDA
namespace Go.Proofs.Ytdmdmbcapjmnlab
open Go.ChangeShapes Go.WideShapes Go.ChangeAt
open Go.RowKit Go.Shelf
set_option linter.unusedVariables false
set_option linter.unusedSimpArgs false
set_option maxRecDepth 20000
theorem cdA (W : World) : Calls Try.prog 10 #[.string encA] W fun e w' => ∃ b, e = .returned (.tuple #[.slice (some ⟨b, 0, none⟩) 2 2, .int .i64 0]) ∧ (w'.cell? ⟨b, 5, none⟩ = some (.int .u8 149) ∧ w'.cell? ⟨b, 6, none⟩ = some (.int .u8 0) ∧ w'.cell? ⟨b, 7, none⟩ = some (.int .u8 0) ∧ w'.cell? ⟨b, 8, none⟩ = some (.int .i16 0) ∧ w'.cell? ⟨b, 9, none⟩ = some (.int .i32 0)) ∧ b < w'.heap.size ∧ Below W.heap.size W w' := by
  refine (cdecode_ok encA 2 sizeA (by decide) W).mono ?_
  rintro e w' ⟨rfl, h1, h2⟩
  rw [decA] at h1
  have hs := slots_blk (cap := 2) h1 okAll.1 (by decide)
  refine ⟨_, rfl, ?_, ch_lt h1, h2⟩
  have hc : ∀ (j : Nat) (v : Value), (lA.flatMap Sl.cells)[j]? = some v → w'.cell? ⟨W.heap.size, j, none⟩ = some v := fun j v hj => by unfold World.cell?; rw [h1]; simpa using hj
  exact ⟨hc 5 _ rfl, hc 6 _ rfl, hc 7 _ rfl, hc 8 _ rfl, hc 9 _ rfl⟩
theorem cd7 (W : World) : Calls Try.prog 10 #[.string ⟨#[49, 50, 51, 52, 53, 54, 55]⟩] W fun e w' => e = .returned (.tuple #[.slice none 0 0, .int .i64 8]) ∧ w' = W := cdecode_form ⟨#[49, 50, 51, 52, 53, 54, 55]⟩ (by decide) W
set_option maxHeartbeats 8000000 in
theorem alive_any (w : World) : Calls Try.prog 4 #[] w fun e w' => e = .returned (.bool true) ∧ Below w.heap.size w w' := by
  go_enter Try.func4, Try.ntmps4
  have hb0 := Below.refl w.heap.size w
  go_upto_region 2 with first | (go_at_call 6; refine (mov_any _).mono ?_; rintro e m1 ⟨rfl, hm1⟩; replace hb0 := hb0.trans (hm1.mono hb0.size)) | (go_at_call 9; refine (exit_any _).mono ?_; rintro e m2 ⟨rfl, hm2⟩; replace hb0 := hb0.trans (hm2.mono hb0.size)) | (go_at_call 5; refine (ckA _).mono ?_; rintro e vA ⟨sA, cA, rfl, ltA, xA, hA⟩; replace hb0 := hb0.trans (hA.mono hb0.size))
  have gA := Below.refl vA.heap.size vA
  go_upto_region 3 with first | (go_at_call 6; refine (mov_any _).mono ?_; rintro e m3 ⟨rfl, hm3⟩; replace hb0 := hb0.trans (hm3.mono hb0.size); replace gA := gA.trans (hm3.mono gA.size)) | (go_at_call 5; refine (ckB _).mono ?_; rintro e vB ⟨rfl, hB⟩; replace hb0 := hb0.trans (hB.mono hb0.size); replace gA := gA.trans (hB.mono gA.size))
  go_upto_region 4 with first | (go_at_call 9; refine (exit_any _).mono ?_; rintro e m4 ⟨rfl, hm4⟩; replace hb0 := hb0.trans (hm4.mono hb0.size); replace gA := gA.trans (hm4.mono gA.size)) | (go_at_call 5; refine (ckC _).mono ?_; rintro e vC ⟨rfl, hC⟩; replace hb0 := hb0.trans (hC.mono hb0.size); replace gA := gA.trans (hC.mono gA.size))
  go_upto_region 5 with first | (go_at_call 6; refine (mov_any _).mono ?_; rintro e m5 ⟨rfl, hm5⟩; replace hb0 := hb0.trans (hm5.mono hb0.size); replace gA := gA.trans (hm5.mono gA.size)) | (go_at_call 9; refine (exit_any _).mono ?_; rintro e m6 ⟨rfl, hm6⟩; replace hb0 := hb0.trans (hm6.mono hb0.size); replace gA := gA.trans (hm6.mono gA.size)) | (go_at_call 5; refine (ckD _).mono ?_; rintro e vD ⟨sD, cD, rfl, ltD, xD, hD⟩; replace hb0 := hb0.trans (hD.mono hb0.size); replace gA := gA.trans (hD.mono gA.size))
  have gD := Below.refl vD.heap.size vD
  go_upto_region 6 with first | (go_at_call 9; refine (exit_any _).mono ?_; rintro e m7 ⟨rfl, hm7⟩; replace hb0 := hb0.trans (hm7.mono hb0.size); replace gA := gA.trans (hm7.mono gA.size); replace gD := gD.trans (hm7.mono gD.size)) | (go_at_call 5; refine (ckE _).mono ?_; rintro e vE ⟨rfl, hE⟩; replace hb0 := hb0.trans (hE.mono hb0.size); replace gA := gA.trans (hE.mono gA.size); replace gD := gD.trans (hE.mono gD.size))
  go_upto_region 7 with first | (go_at_call 5; refine (ck0 _).mono ?_; rintro e v0 ⟨rfl, h0⟩; replace hb0 := hb0.trans (h0.mono hb0.size); replace gA := gA.trans (h0.mono gA.size); replace gD := gD.trans (h0.mono gD.size))
  go_upto_region 8 with first | (go_at_call 6; refine (mov_any _).mono ?_; rintro e m8 ⟨rfl, hm8⟩; replace hb0 := hb0.trans (hm8.mono hb0.size); replace gA := gA.trans (hm8.mono gA.size); replace gD := gD.trans (hm8.mono gD.size)) | (go_at_call 9; refine (exit_any _).mono ?_; rintro e m9 ⟨rfl, hm9⟩; replace hb0 := hb0.trans (hm9.mono hb0.size); replace gA := gA.trans (hm9.mono gA.size); replace gD := gD.trans (hm9.mono gD.size)) | (go_at_call 11; refine (ceA _).mono ?_; rintro e u1 ⟨rfl, hu1⟩; replace hb0 := hb0.trans (hu1.mono hb0.size); replace gA := gA.trans (hu1.mono gA.size); replace gD := gD.trans (hu1.mono gD.size)) | (go_at_call 10; refine (cdA _).mono ?_; rintro e u2 ⟨bE, rfl, ⟨y0, y1, y2, y3, y4⟩, ltE, hu2⟩; replace hb0 := hb0.trans (hu2.mono hb0.size); replace gA := gA.trans (hu2.mono gA.size); replace gD := gD.trans (hu2.mono gD.size))
  have gE := Below.refl u2.heap.size u2
  have zA := (gA.cell (p := ⟨sA, 1, none⟩) ltA).trans xA
  have zD := (gD.cell (p := ⟨sD, 2, none⟩) ltD).trans xD
  go_upto_region 9 with first | (go_at_call 10; refine (cd7 _).mono ?_; rintro e u3 ⟨rfl, hu3⟩; rw [hu3]; clear hu3)
  have la := Nat.lt_of_lt_of_le ltA gA.size
  have ld := Nat.lt_of_lt_of_le ltD gD.size
  clear gA gD gE xA xD hA hB hC hD hE h0 hu1 hu2
  dsimp only [List.append]
  go_region_held3 (fun w' => w'.cell? ⟨sA, 1, none⟩ = some (.int .i64 2) ∧ w'.cell? ⟨sD, 2, none⟩ = some (.int .i64 2) ∧ w'.cell? ⟨bE, 5, none⟩ = some (.int .u8 149) ∧ w'.cell? ⟨bE, 6, none⟩ = some (.int .u8 0) ∧ w'.cell? ⟨bE, 7, none⟩ = some (.int .u8 0) ∧ w'.cell? ⟨bE, 8, none⟩ = some (.int .i16 0) ∧ w'.cell? ⟨bE, 9, none⟩ = some (.int .i32 0)) ((refine ⟨?_, ?_, ?_, ?_, ?_, ?_, ?_⟩ <;> repeat (with_reducible (first | assumption | apply cell_al | apply cell_dr)))) (first | (go_at_call 9; refine (exit_any _).mono ?_; rintro e u4 ⟨rfl, hu4⟩; have q0 : u4.cell? ⟨sA, 1, none⟩ = some (.int .i64 2) := (hu4.cell (p := ⟨sA, 1, none⟩) la).trans zA; have q1 : u4.cell? ⟨sD, 2, none⟩ = some (.int .i64 2) := (hu4.cell (p := ⟨sD, 2, none⟩) ld).trans zD; have q2 : u4.cell? ⟨bE, 5, none⟩ = some (.int .u8 149) := (hu4.cell (p := ⟨bE, 5, none⟩) ltE).trans y0; have q3 : u4.cell? ⟨bE, 6, none⟩ = some (.int .u8 0) := (hu4.cell (p := ⟨bE, 6, none⟩) ltE).trans y1; have q4 : u4.cell? ⟨bE, 7, none⟩ = some (.int .u8 0) := (hu4.cell (p := ⟨bE, 7, none⟩) ltE).trans y2; have q5 : u4.cell? ⟨bE, 8, none⟩ = some (.int .i16 0) := (hu4.cell (p := ⟨bE, 8, none⟩) ltE).trans y3; have q6 : u4.cell? ⟨bE, 9, none⟩ = some (.int .i32 0) := (hu4.cell (p := ⟨bE, 9, none⟩) ltE).trans y4))
  all_goals go_wp2_with fail
  all_goals go_returns
  all_goals exact ⟨rfl, hb0.trans ((Below.drew (Below.refl _ _)).trans (hu4.mono (by first | exact hb0.size | exact Nat.le_refl _)))⟩
end Go.Proofs.Ytdmdmbcapjmnlab
