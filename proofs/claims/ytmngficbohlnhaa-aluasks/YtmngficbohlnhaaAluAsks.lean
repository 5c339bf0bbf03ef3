/- For every code, wide or not, and every two numbers, the statement AluAsks of layer 2 returns true: just one holds of being the same, below, above; each code and its contrary never agree; each asks what it asks turned; no condition. -/
import Derived.Test.YtmngficbohlnhaaAskNarrow
import Derived.Test.YtmngficbohlnhaaAskWide
import Derived.WalkKit
import Derived.ProofKit
import Derived.OpenShut
import Derived.ShutString
namespace Go.Proofs.Ytmngficbohlnhaa.aluAsks
open Go.ChangeShapes Go.WideShapes Go.ChangeAt Go.RowKit
open Go.ChangeMaps (open_string shut_string)
set_option linter.unusedVariables false      -- a walk need not use every 'w<i>' (that an integer argument fits its kind)

theorem own : ownKnob Try.prog.godebug = none := by kernel_rfl

/-! ### STEP 1: THE WALK: the Go text returns true. 'Grown w w'': the world has at most new blocks (Derived/RowKit3.lean). Part the cases AHEAD of 'go_enter' where a test parts the walk; take each callee by a contract of your own. -/
set_option maxRecDepth 100000 in
set_option maxHeartbeats 4000000 in
theorem walk (a0 : Int) (a1 : Bool) (a2 : Int) (a3 : Int) (w0 : (Lit.int .u8 a0).wf = true) (w2 : (Lit.int .u64 a2).wf = true) (w3 : (Lit.int .u64 a3).wf = true) (w : World) :
    Calls Try.prog 6 #[.int .u8 a0, .bool a1, .int .u64 a2, .int .u64 a3] w fun e w' => e = .returned (.bool true) ∧ Grown w w' := by
  have b0 := bd_u8 w0
  have b2 := bd_u64 w2
  have b3 := bd_u64 w3
  clear w0 w2 w3
  have hsub : isother a0 = true → isturn a0 = true := fun h => by
    rcases other_cases a0 h with rfl | rfl | rfl | rfl | rfl | rfl | rfl | rfl | rfl | rfl
    all_goals rfl
  cases a1
  · rcases ord_false a2 a3 b2 b3 with o | o | o | o | o
    · cases t : isturn a0
      · cases u : isother a0
        · exact ask_false_0_2 a0 a2 a3 b0.1 b2 b3 o t u w
        · exact absurd (hsub u) (by rw [t]; decide)
      · cases u : isother a0
        · exact ask_false_0_1 a0 a2 a3 b0.1 b2 b3 o t u w
        · exact ask_false_0_0 a0 a2 a3 b0.1 b2 b3 o t u w
    · cases t : isturn a0
      · cases u : isother a0
        · exact ask_false_1_2 a0 a2 a3 b0.1 b2 b3 o t u w
        · exact absurd (hsub u) (by rw [t]; decide)
      · cases u : isother a0
        · exact ask_false_1_1 a0 a2 a3 b0.1 b2 b3 o t u w
        · exact ask_false_1_0 a0 a2 a3 b0.1 b2 b3 o t u w
    · cases t : isturn a0
      · cases u : isother a0
        · exact ask_false_2_2 a0 a2 a3 b0.1 b2 b3 o t u w
        · exact absurd (hsub u) (by rw [t]; decide)
      · cases u : isother a0
        · exact ask_false_2_1 a0 a2 a3 b0.1 b2 b3 o t u w
        · exact ask_false_2_0 a0 a2 a3 b0.1 b2 b3 o t u w
    · cases t : isturn a0
      · cases u : isother a0
        · exact ask_false_3_2 a0 a2 a3 b0.1 b2 b3 o t u w
        · exact absurd (hsub u) (by rw [t]; decide)
      · cases u : isother a0
        · exact ask_false_3_1 a0 a2 a3 b0.1 b2 b3 o t u w
        · exact ask_false_3_0 a0 a2 a3 b0.1 b2 b3 o t u w
    · cases t : isturn a0
      · cases u : isother a0
        · exact ask_false_4_2 a0 a2 a3 b0.1 b2 b3 o t u w
        · exact absurd (hsub u) (by rw [t]; decide)
      · cases u : isother a0
        · exact ask_false_4_1 a0 a2 a3 b0.1 b2 b3 o t u w
        · exact ask_false_4_0 a0 a2 a3 b0.1 b2 b3 o t u w
  · rcases ord_true a2 a3 b2 b3 with o | o | o | o | o
    · cases t : isturn a0
      · cases u : isother a0
        · exact ask_true_0_2 a0 a2 a3 b0.1 b2 b3 o t u w
        · exact absurd (hsub u) (by rw [t]; decide)
      · cases u : isother a0
        · exact ask_true_0_1 a0 a2 a3 b0.1 b2 b3 o t u w
        · exact ask_true_0_0 a0 a2 a3 b0.1 b2 b3 o t u w
    · cases t : isturn a0
      · cases u : isother a0
        · exact ask_true_1_2 a0 a2 a3 b0.1 b2 b3 o t u w
        · exact absurd (hsub u) (by rw [t]; decide)
      · cases u : isother a0
        · exact ask_true_1_1 a0 a2 a3 b0.1 b2 b3 o t u w
        · exact ask_true_1_0 a0 a2 a3 b0.1 b2 b3 o t u w
    · cases t : isturn a0
      · cases u : isother a0
        · exact ask_true_2_2 a0 a2 a3 b0.1 b2 b3 o t u w
        · exact absurd (hsub u) (by rw [t]; decide)
      · cases u : isother a0
        · exact ask_true_2_1 a0 a2 a3 b0.1 b2 b3 o t u w
        · exact ask_true_2_0 a0 a2 a3 b0.1 b2 b3 o t u w
    · cases t : isturn a0
      · cases u : isother a0
        · exact ask_true_3_2 a0 a2 a3 b0.1 b2 b3 o t u w
        · exact absurd (hsub u) (by rw [t]; decide)
      · cases u : isother a0
        · exact ask_true_3_1 a0 a2 a3 b0.1 b2 b3 o t u w
        · exact ask_true_3_0 a0 a2 a3 b0.1 b2 b3 o t u w
    · cases t : isturn a0
      · cases u : isother a0
        · exact ask_true_4_2 a0 a2 a3 b0.1 b2 b3 o t u w
        · exact absurd (hsub u) (by rw [t]; decide)
      · cases u : isother a0
        · exact ask_true_4_1 a0 a2 a3 b0.1 b2 b3 o t u w
        · exact ask_true_4_0 a0 a2 a3 b0.1 b2 b3 o t u w

/-! ### THE ROW's STEP: WRITTEN OUT: LEAVE IT -/
set_option maxRecDepth 100000 in
theorem lifted (os : Os) (started : os.Started) (H : Type) (enc : TypeId × Value → H) :
    ReturnsInHanded {} Try.checked os 6 .any (Rows.aluAsksSpec.pre6 enc Try.prog Try.f6 Rows.aluAsksRow.domain false) (Rows.aluAsksSpec.post enc Try.prog Try.f6 false true false false) := by
  refine returnsInHanded_of_change (C := Try.checked) own started (by kernel_rfl) Try.func6
    (ChangeSpec.witness6 (enc := enc) (C := Try.checked) false ⟨#[], #[.int .u8 0, .bool false, .int .u64 0, .int .u64 0], []⟩ 8 (by kernel_rfl) (by kernel_rfl) (by kernel_rfl) (by kernel_rfl)) ?_
  intro W base args ds gs before hval0 hW hcnd _
  have hval : ∀ (j : Nat) t v, Try.f6.params[j]? = some t → args[j]? = some v → Value.okWide Try.prog W .any base t v := hval0
  have hW' := hW
  obtain ⟨p, q, hA0, hV, rfl, hfz, hnd⟩ := hW
  have hA : DataW.TrodAll enc Try.prog W 0 (fun _ => true) true Try.f6.params.toList args.toList ds p := hA0
  rw [Try.params6] at hA hval
  obtain ⟨v0, vs0, d0, ds0, p0, q0, hargs, rfl, rfl, h0, r0⟩ := trodAll_cons hA
  obtain ⟨v1, vs1, d1, ds1, p1, q1, rfl, rfl, rfl, h1, r1⟩ := trodAll_cons r0
  obtain ⟨v2, vs2, d2, ds2, p2, q2, rfl, rfl, rfl, h2, r2⟩ := trodAll_cons r1
  obtain ⟨v3, vs3, d3, ds3, p3, q3, rfl, rfl, rfl, h3, r3⟩ := trodAll_cons r2
  obtain ⟨rfl, rfl, rfl⟩ := trodAll_nil r3
  obtain rfl : args = #[v0, v1, v2, v3] := by cases args; simp_all
  obtain ⟨rfl, rfl⟩ := trodVars_none hV
  obtain ⟨a0, rfl, rfl, rfl, w0⟩ := open_int Try.underlying5 (hval 0 5 v0 rfl rfl) h0
  obtain ⟨a1, rfl, rfl, rfl⟩ := open_bool Try.underlying4 (hval 1 4 v1 rfl rfl) h1
  obtain ⟨a2, rfl, rfl, rfl, w2⟩ := open_int Try.underlying22 (hval 2 22 v2 rfl rfl) h2
  obtain ⟨a3, rfl, rfl, rfl, w3⟩ := open_int Try.underlying22 (hval 3 22 v3 rfl rfl) h3
  clear hA0 hval0
  simp only [List.append_nil] at hW'
  refine (walk a0 a1 a2 a3 w0 w2 w3 W).mono fun e W' ⟨he, hg⟩ => ?_
  subst he
  exact ⟨_, rfl, post_of_same (pa := []) (pv := []) hW' (fun _ _ _ => (trodAll_cons_mk (shut_bool Try.underlying4 _) trodAll_mk0)) (fun sp _ => (trodAll_cons_mk (shut_int Try.underlying5 w0) (trodAll_cons_mk (shut_bool Try.underlying4 _) (trodAll_cons_mk (shut_int Try.underlying22 w2) (trodAll_cons_mk (shut_int Try.underlying22 w3) trodAll_mk0))))) (fun _ _ => rfl) rfl
    (hg.frame _) hg.2.1 (ok_one (by kernel_rfl) rfl (okWide_bool_mk Try.underlying4 _))⟩

theorem over : Rows.aluAsksRow.holds Try.pinned (OpenSpec.ofChange Rows.aluAsksSpec) :=
  OpenClaim.holds_of_wide 6 Try.f6 rfl rfl rfl rfl rfl rfl rfl ⟨rfl, rfl, rfl, rfl, rfl⟩ rfl rfl rfl rfl rfl (by kernel_rfl) Try.func6 (by kernel_rfl)
    (of_decide_eq_true (by kernel_rfl)) (by unfold Func.isWrapper; first | (rw [if_pos (by decide +kernel)]; kernel_rfl) | (rw [if_neg (by decide +kernel)]; exact ⟨rfl, rfl⟩))
    (fun os started H enc _ => lifted os started H enc)

theorem proved : Rows.AluAsksSaid :=
  over
end Go.Proofs.Ytmngficbohlnhaa.aluAsks
namespace Go.Proofs.Ytmngficbohlnhaa
theorem aluAsks_holds : Rows.AluAsksSaid :=
  aluAsks.proved
#print axioms aluAsks_holds
end Go.Proofs.Ytmngficbohlnhaa
