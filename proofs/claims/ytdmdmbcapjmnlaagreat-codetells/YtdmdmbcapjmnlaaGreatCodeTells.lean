/- CodeTells, for every program, place and text: what a program's bytes are, which program bytes are, what numbers wide instructions have, where each leads, and whom it names. No conditions. -/
import Derived.Test.YtdmdmbcapjmnlaaGreatDZ
import Derived.WalkKit
import Derived.ProofKit
import Derived.OpenShut
import Derived.ShutString
namespace Go.Proofs.YtdmdmbcapjmnlaaGreat.codeTells
open Go.ChangeShapes Go.WideShapes Go.ChangeAt Go.RowKit
open Go.ChangeMaps (open_string shut_string)
set_option linter.unusedVariables false
set_option linter.unusedSimpArgs false

theorem own : ownKnob Tryz.prog.godebug = none := by kernel_rfl

set_option maxRecDepth 100000 in
set_option maxHeartbeats 16000000 in
theorem walk (a0 : Option Addr) (n0 c0 : Nat) (a1 : Int) (a2 : ByteArray) (w : World) (hs0 : n0 ≤ 4096 → ∃ L : List Sl, L.length = n0 ∧ Slots AnyB w (.slice a0 n0 c0) L) (w1 : (Lit.int .i64 a1).wf = true) (w2 : a2.size ≤ maxLen) :
    Calls Tryz.prog 3 #[.slice a0 n0 c0, .int .i64 a1, .string a2] w fun e w' => e = .returned (.bool true) ∧ Below w.heap.size w w' := by
  have hal := fun W => alive_any W
  by_cases h : 200 < n0
  · have d1 : decide ((200 : Int) < n0) = true := by simp; omega
    go_enter Tryz.func3, Tryz.ntmps3
    go_wp2_with first | (go_at_call 7; refine (hal _).mono ?_; rintro e w1 ⟨rfl, hb⟩)
    go_returns
    exact ⟨rfl, hb⟩
  have d1 : decide ((200 : Int) < n0) = false := by simp; omega
  by_cases h2 : 2048 < a2.size
  · have d2 : decide ((2048 : Int) < a2.size) = true := by simp; omega
    go_enter Tryz.func3, Tryz.ntmps3
    go_wp2_with first | (go_at_call 7; refine (hal _).mono ?_; rintro e w1 ⟨rfl, hb⟩)
    go_returns
    exact ⟨rfl, hb⟩
  have d2 : decide ((2048 : Int) < a2.size) = false := by simp; omega
  obtain ⟨L, hl, hL⟩ := hs0 (by omega)
  clear hs0
  obtain ⟨M, er, k8, k9⟩ := decode_both a2 (by omega)
  have hLw : ∀ W, Below w.heap.size w W → Slots AnyB W (.slice a0 n0 c0) L := fun W h => hL.gr h
  have k10 := fun W hW => callee_any AnyB _ L a1 W (hLw W hW)
  have k11 := fun W hW => rcallee_any AnyB _ L a1 W (hLw W hW)
  have k13 := fun W hW => cencode_any _ L W (hLw W hW)
  have k14 := fun W hW => crencode_any _ L W (hLw W hW)
  have k15 := fun W hW => cnumber_any AnyB _ L a1 W (hLw W hW)
  have k16 := fun W hW => crnumber_any AnyB _ L a1 W (hLw W hW)
  have k18 := fun W hW => next_any AnyB _ L a1 W (hLw W hW)
  have k19 := fun W hW => rnext_any AnyB _ L a1 W (hLw W hW)
  have hxs := nextM_len L a1
  generalize numM L a1 = nu at k15 k16
  generalize nextM L a1 = xs at k18 k19 hxs
  generalize (⟨(encL L).toArray⟩ : ByteArray) = ex at k13 k14
  unfold calleeV at k10 k11
  cases hcm : calleeM L a1 with
  | none =>
    rw [hcm] at k10 k11
    dsimp only at k10 k11
    clear hcm
    go_enter Tryz.func3, Tryz.ntmps3
    go_wp2_with (first | (go_at_call 8; refine (k8 _).mono ?_; rintro e w1 ⟨v1, rfl, hM1, hb1⟩; have HB : Below w.heap.size w w1 := hb1) | (go_at_call 9; refine (k9 _).mono ?_; rintro e w2 ⟨v2, rfl, hM2, hb2⟩; have hM12 := hM1.gr hb2; replace HB := HB.trans (hb2.mono HB.size)) | (go_at_call 10; refine (k10 _ HB).mono ?_; rintro e w3 ⟨rfl, hg3⟩; replace HB := HB.trans (hg3.below.mono HB.size); replace hM12 := hM12.gr hg3.below; replace hM2 := hM2.gr hg3.below) | (go_at_call 11; refine (k11 _ HB).mono ?_; rintro e w4 ⟨rfl, hg4⟩; replace HB := HB.trans (hg4.below.mono HB.size); replace hM12 := hM12.gr hg4.below; replace hM2 := hM2.gr hg4.below) | (go_at_call 12; refine (same_any _ _ M _ hM12 hM2).mono ?_; rintro e w5 ⟨rfl, hb5⟩; replace HB := HB.trans (hb5.mono HB.size)) | (go_at_call 13; refine (k13 _ HB).mono ?_; rintro e w6 ⟨rfl, hb6⟩; replace HB := HB.trans (hb6.mono HB.size)) | (go_at_call 14; refine (k14 _ HB).mono ?_; rintro e w7 ⟨rfl, hb7⟩; replace HB := HB.trans (hb7.mono HB.size)) | (go_at_call 15; refine (k15 _ HB).mono ?_; rintro e w8 ⟨rfl, hb8⟩; replace HB := HB.trans (hb8.mono HB.size)) | (go_at_call 16; refine (k16 _ HB).mono ?_; rintro e w9 ⟨rfl, hb9⟩; replace HB := HB.trans (hb9.mono HB.size)) | (go_at_call 18; refine (k18 _ HB).mono ?_; rintro e w10 ⟨v10, rfl, how⟩; have hN10 := nrow_own how; replace HB := HB.trans (how.2.mono HB.size)) | (go_at_call 19; refine (k19 _ HB).mono ?_; rintro e w11 ⟨v11, rfl, hN11, hb11⟩; have hN1 := hN10.gr hb11; replace HB := HB.trans (hb11.mono HB.size)) | (go_at_call 17; refine (numbers_any _ _ xs (by omega) _ hN1 hN11).mono ?_; rintro e w12 ⟨rfl, hb12⟩; replace HB := HB.trans (hb12.mono HB.size)) | (go_at_call 7; refine (hal _).mono ?_; rintro e w13 ⟨rfl, hb13⟩; replace HB := HB.trans (hb13.mono HB.size)))
    go_returns
    exact ⟨rfl, HB⟩
  | some tt =>
    rw [hcm] at k10 k11
    dsimp only at k10 k11
    clear hcm
    go_enter Tryz.func3, Tryz.ntmps3
    go_wp2_with (first | (go_at_call 8; refine (k8 _).mono ?_; rintro e w1 ⟨v1, rfl, hM1, hb1⟩; have HB : Below w.heap.size w w1 := hb1) | (go_at_call 9; refine (k9 _).mono ?_; rintro e w2 ⟨v2, rfl, hM2, hb2⟩; have hM12 := hM1.gr hb2; replace HB := HB.trans (hb2.mono HB.size)) | (go_at_call 10; refine (k10 _ HB).mono ?_; rintro e w3 ⟨rfl, hg3⟩; replace HB := HB.trans (hg3.below.mono HB.size); replace hM12 := hM12.gr hg3.below; replace hM2 := hM2.gr hg3.below) | (go_at_call 11; refine (k11 _ HB).mono ?_; rintro e w4 ⟨rfl, hg4⟩; replace HB := HB.trans (hg4.below.mono HB.size); replace hM12 := hM12.gr hg4.below; replace hM2 := hM2.gr hg4.below) | (go_at_call 12; refine (same_any _ _ M _ hM12 hM2).mono ?_; rintro e w5 ⟨rfl, hb5⟩; replace HB := HB.trans (hb5.mono HB.size)) | (go_at_call 13; refine (k13 _ HB).mono ?_; rintro e w6 ⟨rfl, hb6⟩; replace HB := HB.trans (hb6.mono HB.size)) | (go_at_call 14; refine (k14 _ HB).mono ?_; rintro e w7 ⟨rfl, hb7⟩; replace HB := HB.trans (hb7.mono HB.size)) | (go_at_call 15; refine (k15 _ HB).mono ?_; rintro e w8 ⟨rfl, hb8⟩; replace HB := HB.trans (hb8.mono HB.size)) | (go_at_call 16; refine (k16 _ HB).mono ?_; rintro e w9 ⟨rfl, hb9⟩; replace HB := HB.trans (hb9.mono HB.size)) | (go_at_call 18; refine (k18 _ HB).mono ?_; rintro e w10 ⟨v10, rfl, how⟩; have hN10 := nrow_own how; replace HB := HB.trans (how.2.mono HB.size)) | (go_at_call 19; refine (k19 _ HB).mono ?_; rintro e w11 ⟨v11, rfl, hN11, hb11⟩; have hN1 := hN10.gr hb11; replace HB := HB.trans (hb11.mono HB.size)) | (go_at_call 17; refine (numbers_any _ _ xs (by omega) _ hN1 hN11).mono ?_; rintro e w12 ⟨rfl, hb12⟩; replace HB := HB.trans (hb12.mono HB.size)) | (go_at_call 7; refine (hal _).mono ?_; rintro e w13 ⟨rfl, hb13⟩; replace HB := HB.trans (hb13.mono HB.size)))
    go_returns
    exact ⟨rfl, HB⟩

theorem readable : ∀ t ∈ Tryz.f3.params.toList, Tryz.prog.readableRec t = true ∧ t < Tryz.prog.types.size := by
  rw [Tryz.params3]
  intro t ht
  simp at ht
  rcases ht with rfl | rfl | rfl
  all_goals exact ⟨by kernel_rfl, of_decide_eq_true (by kernel_rfl)⟩
set_option maxRecDepth 100000 in
theorem lifted (os : Os) (started : os.Started) (H : Type) (enc : TypeId × Value → H) :
    ReturnsInHanded {} Tryz.checked os 3 .any (Rows.codeTellsSpec.pre6 enc Tryz.prog Tryz.f3 Rows.codeTellsRow.domain false) (Rows.codeTellsSpec.post enc Tryz.prog Tryz.f3 false true false false) := by
  refine returnsInHanded_of_change (C := Tryz.checked) own started (by kernel_rfl) Tryz.func3
    (ChangeSpec.witness6 (enc := enc) (C := Tryz.checked) false ⟨#[], #[.slice none 0 0, .int .i64 0, .string ByteArray.empty], []⟩ 8 (by kernel_rfl) (by kernel_rfl) (by kernel_rfl) (by kernel_rfl)) ?_
  intro W base args ds gs before hval0 hW hcnd _
  have hval : ∀ (j : Nat) t v, Tryz.f3.params[j]? = some t → args[j]? = some v → Value.okWide Tryz.prog W .any base t v := hval0
  have hW' := hW
  obtain ⟨p, q, hA0, hV, rfl, hfz, hnd⟩ := hW
  have hA : DataW.TrodAll enc Tryz.prog W 0 (fun _ => true) true Tryz.f3.params.toList args.toList ds p := hA0
  rw [Tryz.params3] at hA hval
  obtain ⟨v0, vs0, d0, ds0, p0, q0, hargs, rfl, rfl, h0, r0⟩ := trodAll_cons hA
  obtain ⟨v1, vs1, d1, ds1, p1, q1, rfl, rfl, rfl, h1, r1⟩ := trodAll_cons r0
  obtain ⟨v2, vs2, d2, ds2, p2, q2, rfl, rfl, rfl, h2, r2⟩ := trodAll_cons r1
  obtain ⟨rfl, rfl, rfl⟩ := trodAll_nil r2
  obtain rfl : args = #[v0, v1, v2] := by cases args; simp_all
  obtain ⟨rfl, rfl⟩ := trodVars_none hV
  obtain ⟨a0, n0, c0, rfl, hs0⟩ := open_slots (hval 0 22 v0 rfl rfl) h0
  obtain ⟨a1, rfl, rfl, rfl, w1⟩ := open_int Tryz.underlying3 (hval 1 3 v1 rfl rfl) h1
  obtain ⟨a2, rfl, rfl, rfl, w2⟩ := open_string Tryz.underlying9 (hval 2 9 v2 rfl rfl) h2
  clear hA0 hval0
  refine (walk a0 n0 c0 a1 a2 W hs0 w1 w2).mono fun e W' ⟨he, hg⟩ => ?_
  subst he
  exact ⟨_, rfl, post_bel readable hW' rfl (fun _ _ _ => (trodAll_cons_mk (shut_bool Tryz.underlying4 _) trodAll_mk0)) rfl (fun _ => rfl)
    hg (ok_one (by kernel_rfl) rfl (okWide_bool_mk Tryz.underlying4 _))⟩

theorem over : Rows.codeTellsRow.holds Tryz.pinned (OpenSpec.ofChange Rows.codeTellsSpec) :=
  OpenClaim.holds_of_wide 3 Tryz.f3 rfl rfl rfl rfl rfl rfl rfl ⟨rfl, rfl, rfl, rfl, rfl⟩ rfl rfl rfl rfl rfl (by kernel_rfl) Tryz.func3 (by kernel_rfl)
    (of_decide_eq_true (by kernel_rfl)) (by unfold Func.isWrapper; first | (rw [if_pos (by decide +kernel)]; kernel_rfl) | (rw [if_neg (by decide +kernel)]; exact ⟨rfl, rfl⟩))
    (fun os started H enc _ => lifted os started H enc)

theorem proved : Rows.CodeTellsSaid :=
  over
end Go.Proofs.YtdmdmbcapjmnlaaGreat.codeTells
namespace Go.Proofs.YtdmdmbcapjmnlaaGreat
theorem codeTells_holds : Rows.CodeTellsSaid :=
  codeTells.proved
#print axioms codeTells_holds
end Go.Proofs.YtdmdmbcapjmnlaaGreat
