/- NameLetters, for every number and two texts: which runes are letters, and which of two texts comes first. No conditions. -/
import Derived.Test.YtkndkniimlckeaaNZC
import Derived.WalkKit
import Derived.ProofKit
import Derived.OpenShut
import Derived.ShutString
namespace Go.Proofs.Ytkndkniimlckeaa.nameLetters
open Go.ChangeShapes Go.WideShapes Go.ChangeAt Go.RowKit
open Go.ChangeMaps (open_string shut_string)
set_option linter.unusedVariables false
set_option linter.unusedSimpArgs false

theorem own : ownKnob Try.prog.godebug = none := by kernel_rfl

set_option maxRecDepth 100000 in
set_option maxHeartbeats 16000000 in
theorem walk (a0 : Int) (a1 : ByteArray) (a2 : ByteArray) (w0 : (Lit.int .i32 a0).wf = true) (w1 : a1.size ≤ maxLen) (w2 : a2.size ≤ maxLen) (w : World) :
    Calls Try.prog 4 #[.int .i32 a0, .string a1, .string a2] w fun e w' => e = .returned (.bool true) ∧ Below w.heap.size w w' := by
  have hal := fun W => alive_any W
  obtain ⟨r0, r1⟩ := bd_i32 w0
  by_cases h1 : 4096 < a1.size
  · have d1 : decide ((4096 : Int) < a1.size) = true := by simp; omega
    go_enter Try.func4, Try.ntmps4
    go_wp2_with (first | (go_at_call 9; refine (hal _).mono ?_; rintro e w' ⟨rfl, hb⟩))
    go_returns
    exact ⟨rfl, hb⟩
  have d1 : decide ((4096 : Int) < a1.size) = false := by simp; omega
  by_cases h2 : 4096 < a2.size
  · have d2 : decide ((4096 : Int) < a2.size) = true := by simp; omega
    go_enter Try.func4, Try.ntmps4
    go_wp2_with (first | (go_at_call 9; refine (hal _).mono ?_; rintro e w' ⟨rfl, hb⟩))
    go_returns
    exact ⟨rfl, hb⟩
  have d2 : decide ((4096 : Int) < a2.size) = false := by simp; omega
  have k17 := fun W => letter_any a0 W
  have k18 := fun W => rletter_any a0 W
  have k19 := fun W => compare_any a1 a2 (by omega) (by omega) W
  have k20 := fun W => rcompare_any a1 a2 (by omega) (by omega) W
  have ec : IntKind.i64.wrap a0 = a0 := IntWalk.i64_in _ (by omega)
  generalize letterB a0 = q at k17 k18
  generalize cmpM (bt a1) (bt a2) = n at k19 k20
  cases q
  · go_enter Try.func4, Try.ntmps4
    go_wp2_with (first | (go_at_call 17; refine (k17 _).mono ?_; rintro e w1 ⟨rfl, hb1⟩; have HB := hb1) | (go_at_call 18; refine (k18 _).mono ?_; rintro e w2 ⟨rfl, rfl⟩) | (go_at_call 19; refine (k19 _).mono ?_; rintro e w3 ⟨rfl, hb3⟩; replace HB := HB.trans hb3) | (go_at_call 20; refine (k20 _).mono ?_; rintro e w4 ⟨rfl, hb4⟩; replace HB := HB.trans hb4) | (go_at_call 9; refine (hal _).mono ?_; rintro e w8 ⟨rfl, hb8⟩; replace HB := HB.trans hb8))
    go_returns
    exact ⟨rfl, HB⟩
  · go_enter Try.func4, Try.ntmps4
    go_wp2_with (first | (go_at_call 17; refine (k17 _).mono ?_; rintro e w1 ⟨rfl, hb1⟩; have HB := hb1) | (go_at_call 18; refine (k18 _).mono ?_; rintro e w2 ⟨rfl, rfl⟩) | (go_at_call 19; refine (k19 _).mono ?_; rintro e w3 ⟨rfl, hb3⟩; replace HB := HB.trans hb3) | (go_at_call 20; refine (k20 _).mono ?_; rintro e w4 ⟨rfl, hb4⟩; replace HB := HB.trans hb4) | (go_at_call 9; refine (hal _).mono ?_; rintro e w8 ⟨rfl, hb8⟩; replace HB := HB.trans hb8))
    go_returns
    exact ⟨rfl, HB⟩

set_option maxRecDepth 100000 in
theorem lifted (os : Os) (started : os.Started) (H : Type) (enc : TypeId × Value → H) :
    ReturnsInHanded {} Try.checked os 4 .any (Rows.nameLettersSpec.pre6 enc Try.prog Try.f4 Rows.nameLettersRow.domain false) (Rows.nameLettersSpec.post enc Try.prog Try.f4 false true false false) := by
  refine returnsInHanded_of_change (C := Try.checked) own started (by kernel_rfl) Try.func4
    (ChangeSpec.witness6 (enc := enc) (C := Try.checked) false ⟨#[], #[.int .i32 0, .string ByteArray.empty, .string ByteArray.empty], []⟩ 8 (by kernel_rfl) (by kernel_rfl) (by kernel_rfl) (by kernel_rfl)) ?_
  intro W base args ds gs before hval0 hW hcnd _
  have hval : ∀ (j : Nat) t v, Try.f4.params[j]? = some t → args[j]? = some v → Value.okWide Try.prog W .any base t v := hval0
  have hW' := hW
  obtain ⟨p, q, hA0, hV, rfl, hfz, hnd⟩ := hW
  have hA : DataW.TrodAll enc Try.prog W 0 (fun _ => true) true Try.f4.params.toList args.toList ds p := hA0
  rw [Try.params4] at hA hval
  obtain ⟨v0, vs0, d0, ds0, p0, q0, hargs, rfl, rfl, h0, r0⟩ := trodAll_cons hA
  obtain ⟨v1, vs1, d1, ds1, p1, q1, rfl, rfl, rfl, h1, r1⟩ := trodAll_cons r0
  obtain ⟨v2, vs2, d2, ds2, p2, q2, rfl, rfl, rfl, h2, r2⟩ := trodAll_cons r1
  obtain ⟨rfl, rfl, rfl⟩ := trodAll_nil r2
  obtain rfl : args = #[v0, v1, v2] := by cases args; simp_all
  obtain ⟨rfl, rfl⟩ := trodVars_none hV
  obtain ⟨a0, rfl, rfl, rfl, w0⟩ := open_int Try.underlying21 (hval 0 21 v0 rfl rfl) h0
  obtain ⟨a1, rfl, rfl, rfl, w1⟩ := open_string Try.underlying9 (hval 1 9 v1 rfl rfl) h1
  obtain ⟨a2, rfl, rfl, rfl, w2⟩ := open_string Try.underlying9 (hval 2 9 v2 rfl rfl) h2
  clear hA0 hval0
  simp only [List.append_nil] at hW'
  refine (walk a0 a1 a2 w0 w1 w2 W).mono fun e W' ⟨he, hg⟩ => ?_
  subst he
  exact ⟨_, rfl, post_nil hW' (fun _ _ _ => (trodAll_cons_mk (shut_bool Try.underlying4 _) trodAll_mk0)) (fun sp => (trodAll_cons_mk (shut_int Try.underlying21 w0) (trodAll_cons_mk (shut_string Try.underlying9 w1) (trodAll_cons_mk (shut_string Try.underlying9 w2) trodAll_mk0)))) (fun _ => rfl)
    hg (ok_one (by kernel_rfl) rfl (okWide_bool_mk Try.underlying4 _))⟩

theorem over : Rows.nameLettersRow.holds Try.pinned (OpenSpec.ofChange Rows.nameLettersSpec) :=
  OpenClaim.holds_of_wide 4 Try.f4 rfl rfl rfl rfl rfl rfl rfl ⟨rfl, rfl, rfl, rfl, rfl⟩ rfl rfl rfl rfl rfl (by kernel_rfl) Try.func4 (by kernel_rfl)
    (of_decide_eq_true (by kernel_rfl)) (by unfold Func.isWrapper; first | (rw [if_pos (by decide +kernel)]; kernel_rfl) | (rw [if_neg (by decide +kernel)]; exact ⟨rfl, rfl⟩))
    (fun os started H enc _ => lifted os started H enc)

theorem proved : Rows.NameLettersSaid :=
  over
end Go.Proofs.Ytkndkniimlckeaa.nameLetters
namespace Go.Proofs.Ytkndkniimlckeaa
theorem nameLetters_holds : Rows.NameLettersSaid :=
  nameLetters.proved
#print axioms nameLetters_holds
end Go.Proofs.Ytkndkniimlckeaa
