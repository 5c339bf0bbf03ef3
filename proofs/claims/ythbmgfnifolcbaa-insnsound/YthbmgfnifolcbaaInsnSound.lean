/- What is proved: InsnSound: what is no instruction reads and writes nothing, none writes the register where the stack ends, what is read rises, sizes are those of what touches memory alone; for any instruction. No condition. -/
import Derived.Test.YthbmgfnifolcbaaSX1
import Derived.Test.YthbmgfnifolcbaaSX2
import Derived.Test.YthbmgfnifolcbaaSX3
import Derived.Test.YthbmgfnifolcbaaSX4
import Derived.WalkKit
import Derived.ProofKit
import Derived.OpenShut
import Derived.ShutString
namespace Go.Proofs.Ythbmgfnifolcbaa.insnSound
open Go.ChangeShapes Go.WideShapes Go.ChangeAt Go.RowKit
open Go.ChangeMaps (open_string shut_string)
set_option linter.unusedVariables false

theorem own : ownKnob Try.prog.godebug = none := by kernel_rfl

set_option maxRecDepth 100000 in
set_option maxHeartbeats 16000000 in
theorem walk (a0_0 a0_1 a0_2 a0_3 a0_4 : Int) (w0_0 : (Lit.int .u8 a0_0).wf = true) (w0_1 : (Lit.int .u8 a0_1).wf = true) (w0_2 : (Lit.int .u8 a0_2).wf = true) (w0_3 : (Lit.int .i16 a0_3).wf = true) (w0_4 : (Lit.int .i32 a0_4).wf = true) (w : World) :
    Calls Try.prog 6 #[ins a0_0 a0_1 a0_2 a0_3 a0_4] w fun e w' => e = .returned (.bool true) ∧ Below w.heap.size w w' := by
  obtain ⟨h0, h1⟩ := bd_u8 w0_0
  obtain ⟨d0, d1⟩ := bd_u8 w0_1
  obtain ⟨s0, s1⟩ := bd_u8 w0_2
  have hr : kV a0_0 a0_1 a0_2 a0_3 a0_4 ≠ 0 → a0_1 < 11 ∧ a0_2 < 11 := fun h => ⟨(kV_pos rfl h).1, (kV_pos rfl h).2.1⟩
  by_cases hk : kV a0_0 a0_1 a0_2 a0_3 a0_4 = 0
  · have hv := hk
    exact sound_0_0_0_f a0_0 a0_1 a0_2 a0_3 a0_4 h0 h1 d0 d1 s0 s1 hv  (by rw [hv]; simp [rdL])  (by rw [hv]; simp [szK]) (by rw [hv]; simp [wideB]) (by rw [hv]; simp [wrV]) hr w
  obtain ⟨gd, gs, gn, gm, gz⟩ := kV_pos rfl hk
  have sz : szV a0_0 = 1 ∨ szV a0_0 = 2 ∨ szV a0_0 = 4 ∨ szV a0_0 = 8 := by unfold szV; split <;> (try split) <;> (try split) <;> simp
  rcases nm_cases a0_0 a0_2 with k | k | k | k | k | k | k | k | k | k | k
  all_goals (have hv : kV a0_0 a0_1 a0_2 a0_3 a0_4 = nmV a0_0 a0_2 := gn.symm)
  all_goals rw [k] at hv
  all_goals rw [hv] at gm
  · exact absurd hv hk
  · by_cases hc : a0_0 / 16 = 11
    · cases hx : xB a0_0 with
      | true =>
        cases hw : wideB (kV a0_0 a0_1 a0_2 a0_3 a0_4) a0_0 with
        | true =>
          exact sound_1_1_0_t a0_0 a0_1 a0_2 a0_3 a0_4 h0 h1 d0 d1 s0 s1 hv a0_2 (by rw [hv]; simp [rdL, hc, secL, hx, riseL]) (by simp; omega) (by rw [hv]; simp [szK]) hw (by rw [hv]; simp [mayB] at gm; simp [wrV]; omega) hr w
        | false =>
          exact sound_1_1_0_f a0_0 a0_1 a0_2 a0_3 a0_4 h0 h1 d0 d1 s0 s1 hv a0_2 (by rw [hv]; simp [rdL, hc, secL, hx, riseL]) (by simp; omega) (by rw [hv]; simp [szK]) hw (by rw [hv]; simp [mayB] at gm; simp [wrV]; omega) hr w
      | false =>
        cases hw : wideB (kV a0_0 a0_1 a0_2 a0_3 a0_4) a0_0 with
        | true =>
          exact sound_1_0_0_t a0_0 a0_1 a0_2 a0_3 a0_4 h0 h1 d0 d1 s0 s1 hv  (by rw [hv]; simp [rdL, hc, secL, hx, riseL])  (by rw [hv]; simp [szK]) hw (by rw [hv]; simp [mayB] at gm; simp [wrV]; omega) hr w
        | false =>
          exact sound_1_0_0_f a0_0 a0_1 a0_2 a0_3 a0_4 h0 h1 d0 d1 s0 s1 hv  (by rw [hv]; simp [rdL, hc, secL, hx, riseL])  (by rw [hv]; simp [szK]) hw (by rw [hv]; simp [mayB] at gm; simp [wrV]; omega) hr w
    · cases hx : xB a0_0 with
      | true =>
        by_cases he : a0_2 = a0_1
        · cases hw : wideB (kV a0_0 a0_1 a0_2 a0_3 a0_4) a0_0 with
          | true =>
            exact sound_1_1_0_t a0_0 a0_1 a0_2 a0_3 a0_4 h0 h1 d0 d1 s0 s1 hv a0_2 (by rw [hv]; simp [rdL, hc, secL, hx, riseL, he]) (by simp; omega) (by rw [hv]; simp [szK]) hw (by rw [hv]; simp [mayB] at gm; simp [wrV]; omega) hr w
          | false =>
            exact sound_1_1_0_f a0_0 a0_1 a0_2 a0_3 a0_4 h0 h1 d0 d1 s0 s1 hv a0_2 (by rw [hv]; simp [rdL, hc, secL, hx, riseL, he]) (by simp; omega) (by rw [hv]; simp [szK]) hw (by rw [hv]; simp [mayB] at gm; simp [wrV]; omega) hr w
        · cases hw : wideB (kV a0_0 a0_1 a0_2 a0_3 a0_4) a0_0 with
          | true =>
            exact sound_1_2_0_t a0_0 a0_1 a0_2 a0_3 a0_4 h0 h1 d0 d1 s0 s1 hv (min a0_2 a0_1) (max a0_2 a0_1) (by rw [hv]; simp [rdL, hc, secL, hx, riseL, he]) (by simp; omega) (by simp; omega) (by simp; omega) (by rw [hv]; simp [szK]) hw (by rw [hv]; simp [mayB] at gm; simp [wrV]; omega) hr w
          | false =>
            exact sound_1_2_0_f a0_0 a0_1 a0_2 a0_3 a0_4 h0 h1 d0 d1 s0 s1 hv (min a0_2 a0_1) (max a0_2 a0_1) (by rw [hv]; simp [rdL, hc, secL, hx, riseL, he]) (by simp; omega) (by simp; omega) (by simp; omega) (by rw [hv]; simp [szK]) hw (by rw [hv]; simp [mayB] at gm; simp [wrV]; omega) hr w
      | false =>
        cases hw : wideB (kV a0_0 a0_1 a0_2 a0_3 a0_4) a0_0 with
        | true =>
          exact sound_1_1_0_t a0_0 a0_1 a0_2 a0_3 a0_4 h0 h1 d0 d1 s0 s1 hv a0_1 (by rw [hv]; simp [rdL, hc, secL, hx, riseL]) (by simp; omega) (by rw [hv]; simp [szK]) hw (by rw [hv]; simp [mayB] at gm; simp [wrV]; omega) hr w
        | false =>
          exact sound_1_1_0_f a0_0 a0_1 a0_2 a0_3 a0_4 h0 h1 d0 d1 s0 s1 hv a0_1 (by rw [hv]; simp [rdL, hc, secL, hx, riseL]) (by simp; omega) (by rw [hv]; simp [szK]) hw (by rw [hv]; simp [mayB] at gm; simp [wrV]; omega) hr w
  · rcases sz with z | z | z | z
    · exact sound_2_1_1_f a0_0 a0_1 a0_2 a0_3 a0_4 h0 h1 d0 d1 s0 s1 hv a0_2 (by rw [hv]; simp [rdL]) (by simp; omega) (by rw [hv]; simp [szK, z]) (by rw [hv]; simp [wideB]) (by rw [hv]; simp [mayB] at gm; simp [wrV]; omega) hr w
    · exact sound_2_1_2_f a0_0 a0_1 a0_2 a0_3 a0_4 h0 h1 d0 d1 s0 s1 hv a0_2 (by rw [hv]; simp [rdL]) (by simp; omega) (by rw [hv]; simp [szK, z]) (by rw [hv]; simp [wideB]) (by rw [hv]; simp [mayB] at gm; simp [wrV]; omega) hr w
    · exact sound_2_1_4_f a0_0 a0_1 a0_2 a0_3 a0_4 h0 h1 d0 d1 s0 s1 hv a0_2 (by rw [hv]; simp [rdL]) (by simp; omega) (by rw [hv]; simp [szK, z]) (by rw [hv]; simp [wideB]) (by rw [hv]; simp [mayB] at gm; simp [wrV]; omega) hr w
    · exact sound_2_1_8_f a0_0 a0_1 a0_2 a0_3 a0_4 h0 h1 d0 d1 s0 s1 hv a0_2 (by rw [hv]; simp [rdL]) (by simp; omega) (by rw [hv]; simp [szK, z]) (by rw [hv]; simp [wideB]) (by rw [hv]; simp [mayB] at gm; simp [wrV]; omega) hr w
  · rcases sz with z | z | z | z
    · exact sound_3_1_1_f a0_0 a0_1 a0_2 a0_3 a0_4 h0 h1 d0 d1 s0 s1 hv a0_1 (by rw [hv]; simp [rdL]) (by simp; omega) (by rw [hv]; simp [szK, z]) (by rw [hv]; simp [wideB]) (by rw [hv]; simp [wrV]) hr w
    · exact sound_3_1_2_f a0_0 a0_1 a0_2 a0_3 a0_4 h0 h1 d0 d1 s0 s1 hv a0_1 (by rw [hv]; simp [rdL]) (by simp; omega) (by rw [hv]; simp [szK, z]) (by rw [hv]; simp [wideB]) (by rw [hv]; simp [wrV]) hr w
    · exact sound_3_1_4_f a0_0 a0_1 a0_2 a0_3 a0_4 h0 h1 d0 d1 s0 s1 hv a0_1 (by rw [hv]; simp [rdL]) (by simp; omega) (by rw [hv]; simp [szK, z]) (by rw [hv]; simp [wideB]) (by rw [hv]; simp [wrV]) hr w
    · exact sound_3_1_8_f a0_0 a0_1 a0_2 a0_3 a0_4 h0 h1 d0 d1 s0 s1 hv a0_1 (by rw [hv]; simp [rdL]) (by simp; omega) (by rw [hv]; simp [szK, z]) (by rw [hv]; simp [wideB]) (by rw [hv]; simp [wrV]) hr w
  · by_cases he : a0_1 = a0_2
    · rcases sz with z | z | z | z
      · exact sound_4_1_1_f a0_0 a0_1 a0_2 a0_3 a0_4 h0 h1 d0 d1 s0 s1 hv a0_1 (by rw [hv]; simp [rdL, riseL, he]) (by simp; omega) (by rw [hv]; simp [szK, z]) (by rw [hv]; simp [wideB]) (by rw [hv]; simp [wrV]) hr w
      · exact sound_4_1_2_f a0_0 a0_1 a0_2 a0_3 a0_4 h0 h1 d0 d1 s0 s1 hv a0_1 (by rw [hv]; simp [rdL, riseL, he]) (by simp; omega) (by rw [hv]; simp [szK, z]) (by rw [hv]; simp [wideB]) (by rw [hv]; simp [wrV]) hr w
      · exact sound_4_1_4_f a0_0 a0_1 a0_2 a0_3 a0_4 h0 h1 d0 d1 s0 s1 hv a0_1 (by rw [hv]; simp [rdL, riseL, he]) (by simp; omega) (by rw [hv]; simp [szK, z]) (by rw [hv]; simp [wideB]) (by rw [hv]; simp [wrV]) hr w
      · exact sound_4_1_8_f a0_0 a0_1 a0_2 a0_3 a0_4 h0 h1 d0 d1 s0 s1 hv a0_1 (by rw [hv]; simp [rdL, riseL, he]) (by simp; omega) (by rw [hv]; simp [szK, z]) (by rw [hv]; simp [wideB]) (by rw [hv]; simp [wrV]) hr w
    · rcases sz with z | z | z | z
      · exact sound_4_2_1_f a0_0 a0_1 a0_2 a0_3 a0_4 h0 h1 d0 d1 s0 s1 hv (min a0_1 a0_2) (max a0_1 a0_2) (by rw [hv]; simp [rdL, riseL, he]) (by simp; omega) (by simp; omega) (by simp; omega) (by rw [hv]; simp [szK, z]) (by rw [hv]; simp [wideB]) (by rw [hv]; simp [wrV]) hr w
      · exact sound_4_2_2_f a0_0 a0_1 a0_2 a0_3 a0_4 h0 h1 d0 d1 s0 s1 hv (min a0_1 a0_2) (max a0_1 a0_2) (by rw [hv]; simp [rdL, riseL, he]) (by simp; omega) (by simp; omega) (by simp; omega) (by rw [hv]; simp [szK, z]) (by rw [hv]; simp [wideB]) (by rw [hv]; simp [wrV]) hr w
      · exact sound_4_2_4_f a0_0 a0_1 a0_2 a0_3 a0_4 h0 h1 d0 d1 s0 s1 hv (min a0_1 a0_2) (max a0_1 a0_2) (by rw [hv]; simp [rdL, riseL, he]) (by simp; omega) (by simp; omega) (by simp; omega) (by rw [hv]; simp [szK, z]) (by rw [hv]; simp [wideB]) (by rw [hv]; simp [wrV]) hr w
      · exact sound_4_2_8_f a0_0 a0_1 a0_2 a0_3 a0_4 h0 h1 d0 d1 s0 s1 hv (min a0_1 a0_2) (max a0_1 a0_2) (by rw [hv]; simp [rdL, riseL, he]) (by simp; omega) (by simp; omega) (by simp; omega) (by rw [hv]; simp [szK, z]) (by rw [hv]; simp [wideB]) (by rw [hv]; simp [wrV]) hr w
  · cases hx : xB a0_0 with
    | true =>
      by_cases he : a0_2 = a0_1
      · cases hw : wideB (kV a0_0 a0_1 a0_2 a0_3 a0_4) a0_0 with
        | true =>
          exact sound_5_1_0_t a0_0 a0_1 a0_2 a0_3 a0_4 h0 h1 d0 d1 s0 s1 hv a0_2 (by rw [hv]; simp [rdL, secL, hx, riseL, he]) (by simp; omega) (by rw [hv]; simp [szK]) hw (by rw [hv]; simp [wrV]) hr w
        | false =>
          exact sound_5_1_0_f a0_0 a0_1 a0_2 a0_3 a0_4 h0 h1 d0 d1 s0 s1 hv a0_2 (by rw [hv]; simp [rdL, secL, hx, riseL, he]) (by simp; omega) (by rw [hv]; simp [szK]) hw (by rw [hv]; simp [wrV]) hr w
      · cases hw : wideB (kV a0_0 a0_1 a0_2 a0_3 a0_4) a0_0 with
        | true =>
          exact sound_5_2_0_t a0_0 a0_1 a0_2 a0_3 a0_4 h0 h1 d0 d1 s0 s1 hv (min a0_2 a0_1) (max a0_2 a0_1) (by rw [hv]; simp [rdL, secL, hx, riseL, he]) (by simp; omega) (by simp; omega) (by simp; omega) (by rw [hv]; simp [szK]) hw (by rw [hv]; simp [wrV]) hr w
        | false =>
          exact sound_5_2_0_f a0_0 a0_1 a0_2 a0_3 a0_4 h0 h1 d0 d1 s0 s1 hv (min a0_2 a0_1) (max a0_2 a0_1) (by rw [hv]; simp [rdL, secL, hx, riseL, he]) (by simp; omega) (by simp; omega) (by simp; omega) (by rw [hv]; simp [szK]) hw (by rw [hv]; simp [wrV]) hr w
    | false =>
      cases hw : wideB (kV a0_0 a0_1 a0_2 a0_3 a0_4) a0_0 with
      | true =>
        exact sound_5_1_0_t a0_0 a0_1 a0_2 a0_3 a0_4 h0 h1 d0 d1 s0 s1 hv a0_1 (by rw [hv]; simp [rdL, secL, hx, riseL]) (by simp; omega) (by rw [hv]; simp [szK]) hw (by rw [hv]; simp [wrV]) hr w
      | false =>
        exact sound_5_1_0_f a0_0 a0_1 a0_2 a0_3 a0_4 h0 h1 d0 d1 s0 s1 hv a0_1 (by rw [hv]; simp [rdL, secL, hx, riseL]) (by simp; omega) (by rw [hv]; simp [szK]) hw (by rw [hv]; simp [wrV]) hr w
  · exact sound_6_0_0_f a0_0 a0_1 a0_2 a0_3 a0_4 h0 h1 d0 d1 s0 s1 hv  (by rw [hv]; simp [rdL])  (by rw [hv]; simp [szK]) (by rw [hv]; simp [wideB]) (by rw [hv]; simp [wrV]) hr w
  · exact sound_7_0_0_f a0_0 a0_1 a0_2 a0_3 a0_4 h0 h1 d0 d1 s0 s1 hv  (by rw [hv]; simp [rdL])  (by rw [hv]; simp [szK]) (by rw [hv]; simp [wideB]) (by rw [hv]; simp [wrV]) hr w
  · exact sound_8_1_0_f a0_0 a0_1 a0_2 a0_3 a0_4 h0 h1 d0 d1 s0 s1 hv 0 (by rw [hv]; simp [rdL]) (by decide) (by rw [hv]; simp [szK]) (by rw [hv]; simp [wideB]) (by rw [hv]; simp [wrV]) hr w
  · exact sound_9_0_0_f a0_0 a0_1 a0_2 a0_3 a0_4 h0 h1 d0 d1 s0 s1 hv  (by rw [hv]; simp [rdL])  (by rw [hv]; simp [szK]) (by rw [hv]; simp [wideB]) (by rw [hv]; simp [mayB] at gm; simp [wrV]; omega) hr w
  · exact sound_10_0_0_f a0_0 a0_1 a0_2 a0_3 a0_4 h0 h1 d0 d1 s0 s1 hv  (by rw [hv]; simp [rdL])  (by rw [hv]; simp [szK]) (by rw [hv]; simp [wideB]) (by rw [hv]; simp [wrV]) hr w

set_option maxRecDepth 100000 in
theorem lifted (os : Os) (started : os.Started) (H : Type) (enc : TypeId × Value → H) :
    ReturnsInHanded {} Try.checked os 6 .any (Rows.insnSoundSpec.pre6 enc Try.prog Try.f6 Rows.insnSoundRow.domain false) (Rows.insnSoundSpec.post enc Try.prog Try.f6 false true false false) := by
  refine returnsInHanded_of_change (C := Try.checked) own started (by kernel_rfl) Try.func6
    (ChangeSpec.witness6 (enc := enc) (C := Try.checked) false ⟨#[], #[.agg #[.int .u8 0, .int .u8 0, .int .u8 0, .int .i16 0, .int .i32 0]], []⟩ 8 (by kernel_rfl) (by kernel_rfl) (by kernel_rfl) (by kernel_rfl)) ?_
  intro W base args ds gs before hval0 hW hcnd _
  have hval : ∀ (j : Nat) t v, Try.f6.params[j]? = some t → args[j]? = some v → Value.okWide Try.prog W .any base t v := hval0
  have hW' := hW
  obtain ⟨p, q, hA0, hV, rfl, hfz, hnd⟩ := hW
  have hA : DataW.TrodAll enc Try.prog W 0 (fun _ => true) true Try.f6.params.toList args.toList ds p := hA0
  rw [Try.params6] at hA hval
  obtain ⟨v0, vs0, d0, ds0, p0, q0, hargs, rfl, rfl, h0, r0⟩ := trodAll_cons hA
  obtain ⟨rfl, rfl, rfl⟩ := trodAll_nil r0
  obtain rfl : args = #[v0] := by cases args; simp_all
  obtain ⟨rfl, rfl⟩ := trodVars_none hV
  obtain ⟨a0_0, a0_1, a0_2, a0_3, a0_4, rfl, rfl, rfl, w0_0, w0_1, w0_2, w0_3, w0_4⟩ := open_insn (hval 0 24 v0 rfl rfl) h0
  clear hA0 hval0
  simp only [List.append_nil] at hW'
  refine (walk a0_0 a0_1 a0_2 a0_3 a0_4 w0_0 w0_1 w0_2 w0_3 w0_4 W).mono fun e W' ⟨he, hg⟩ => ?_
  subst he
  exact ⟨_, rfl, post_nil hW' (fun _ _ _ => (trodAll_cons_mk (shut_bool Try.underlying4 _) trodAll_mk0)) (fun sp => (trodAll_cons_mk (shut_insn w0_0 w0_1 w0_2 w0_3 w0_4) trodAll_mk0)) (fun _ => rfl)
    hg (ok_one (by kernel_rfl) rfl (okWide_bool_mk Try.underlying4 _))⟩

theorem over : Rows.insnSoundRow.holds Try.pinned (OpenSpec.ofChange Rows.insnSoundSpec) :=
  OpenClaim.holds_of_wide 6 Try.f6 rfl rfl rfl rfl rfl rfl rfl ⟨rfl, rfl, rfl, rfl, rfl⟩ rfl rfl rfl rfl rfl (by kernel_rfl) Try.func6 (by kernel_rfl)
    (of_decide_eq_true (by kernel_rfl)) (by unfold Func.isWrapper; first | (rw [if_pos (by decide +kernel)]; kernel_rfl) | (rw [if_neg (by decide +kernel)]; exact ⟨rfl, rfl⟩))
    (fun os started H enc _ => lifted os started H enc)

theorem proved : Rows.InsnSoundSaid :=
  over
end Go.Proofs.Ythbmgfnifolcbaa.insnSound
namespace Go.Proofs.Ythbmgfnifolcbaa
theorem insnSound_holds : Rows.InsnSoundSaid :=
  insnSound.proved
#print axioms insnSound_holds
end Go.Proofs.Ythbmgfnifolcbaa
