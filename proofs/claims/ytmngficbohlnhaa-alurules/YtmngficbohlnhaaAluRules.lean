/- For every three numbers, wide or not, the statement AluRules of layer 2 (the stage's theorem) returns true: numbers are reckoned as numbers are; no condition. -/
import Derived.Test.YtmngficbohlnhaaRules
import Derived.WalkKit
import Derived.ProofKit
import Derived.OpenShut
import Derived.ShutString
namespace Go.Proofs.Ytmngficbohlnhaa.aluRules
open Go.ChangeShapes Go.WideShapes Go.ChangeAt Go.RowKit
open Go.ChangeMaps (open_string shut_string)
set_option linter.unusedVariables false      -- a walk need not use every 'w<i>' (that an integer argument fits its kind)

theorem own : ownKnob Try.prog.godebug = none := by kernel_rfl

/-! ### STEP 1: THE WALK: the Go text returns true. 'Grown w w'': the world has at most new blocks (Derived/RowKit3.lean). Part the cases AHEAD of 'go_enter' where a test parts the walk; take each callee by a contract of your own. -/
set_option maxRecDepth 100000 in
set_option maxHeartbeats 4000000 in
theorem walk (a0 : Bool) (a1 : Int) (a2 : Int) (a3 : Int) (w1 : (Lit.int .u64 a1).wf = true) (w2 : (Lit.int .u64 a2).wf = true) (w3 : (Lit.int .u64 a3).wf = true) (w : World) :
    Calls Try.prog 4 #[.bool a0, .int .u64 a1, .int .u64 a2, .int .u64 a3] w fun e w' => e = .returned (.bool true) ∧ Grown w w' := by
  have b1 := bd_u64 w1
  have b2 := bd_u64 w2
  have b3 := bd_u64 w3
  clear w1 w2 w3
  have HG : Gr w w := Gr.refl w
  have k1 : (doesV a0 0 a1 a2 != doesV a0 0 a2 a1) = false := by rw [ru1, bne_self_eq_false]
  have k2 : (doesV a0 2 a1 a2 != doesV a0 2 a2 a1) = false := by rw [ru2, bne_self_eq_false]
  have k3 : (doesV a0 0 (doesV a0 0 a1 a2) a3 != doesV a0 0 a1 (doesV a0 0 a2 a3)) = false := by rw [ru3, bne_self_eq_false]
  have k4 : (doesV a0 2 (doesV a0 2 a1 a2) a3 != doesV a0 2 a1 (doesV a0 2 a2 a3)) = false := by rw [ru4, bne_self_eq_false]
  have k5 : (doesV a0 0 (doesV a0 1 a1 a2) a2 != doesV a0 11 0 a1) = false := by rw [ru5, bne_self_eq_false]
  have k6 : (doesV a0 0 a1 (doesV a0 8 a1 0) != 0) = false := by rw [ru6, bne_self_eq_false]
  have k7 : (doesV a0 2 a1 (doesV a0 0 a2 a3) != doesV a0 0 (doesV a0 2 a1 a2) (doesV a0 2 a1 a3)) = false := by rw [ru7, bne_self_eq_false]
  have k8 : (doesV a0 0 (doesV a0 2 (doesV a0 3 a1 a2) a2) (doesV a0 9 a1 a2) != doesV a0 11 0 a1) = false := by rw [ru8, bne_self_eq_false]
  have k10 : (doesV a0 7 (doesV a0 6 a1 a3) a3 == doesV a0 7 (doesV a0 6 (doesV a0 11 0 a1) a3) a3) = true := by rw [ru10, beq_self_eq_true]
  have k11 : (doesV a0 10 (doesV a0 5 a1 a2) (doesV a0 4 a1 a2) == doesV a0 10 a1 a2) = true := by rw [ru11, beq_self_eq_true]
  have k12 : (doesV a0 0 (doesV a0 5 a1 a2) (doesV a0 4 a1 a2) == doesV a0 0 a1 a2) = true := by rw [ru12, beq_self_eq_true]
  by_cases hz : doesV a0 11 0 a2 = 0
  · have z1 : (doesV a0 11 0 a2 != 0) = false := by rw [hz, bne_self_eq_false]
    clear hz
    go_enter Try.func4, Try.ntmps4
    go_wp2_with (first
      | (go_at_call 17; refine (does_fn _ _ _ _ (by omega) (by first | assumption | exact u64_bd _ _ _ _ | omega) (by first | assumption | exact u64_bd _ _ _ _ | omega) _).mono ?_; rintro e w' ⟨rfl, hg⟩; replace HG := HG.trans hg; clear hg)
      | (go_at_call 16; refine (alive_any _).mono ?_; rintro e w' ⟨rfl, hg⟩; replace HG := HG.trans hg; clear hg))
    go_ret
    exact ⟨rfl, HG.grown⟩
  · have z1 : (doesV a0 11 0 a2 != 0) = true := by simpa using hz
    have z2 : decide (doesV a0 11 0 a2 ≤ doesV a0 9 a1 a2) = false := by have := ru9 a0 a1 a2 hz; simp; omega
    clear hz
    go_enter Try.func4, Try.ntmps4
    go_wp2_with (first
      | (go_at_call 17; refine (does_fn _ _ _ _ (by omega) (by first | assumption | exact u64_bd _ _ _ _ | omega) (by first | assumption | exact u64_bd _ _ _ _ | omega) _).mono ?_; rintro e w' ⟨rfl, hg⟩; replace HG := HG.trans hg; clear hg)
      | (go_at_call 16; refine (alive_any _).mono ?_; rintro e w' ⟨rfl, hg⟩; replace HG := HG.trans hg; clear hg))
    go_ret
    exact ⟨rfl, HG.grown⟩

/-! ### THE ROW's STEP: WRITTEN OUT: LEAVE IT -/
set_option maxRecDepth 100000 in
theorem lifted (os : Os) (started : os.Started) (H : Type) (enc : TypeId × Value → H) :
    ReturnsInHanded {} Try.checked os 4 .any (Rows.aluRulesSpec.pre6 enc Try.prog Try.f4 Rows.aluRulesRow.domain false) (Rows.aluRulesSpec.post enc Try.prog Try.f4 false true false false) := by
  refine returnsInHanded_of_change (C := Try.checked) own started (by kernel_rfl) Try.func4
    (ChangeSpec.witness6 (enc := enc) (C := Try.checked) false ⟨#[], #[.bool false, .int .u64 0, .int .u64 0, .int .u64 0], []⟩ 8 (by kernel_rfl) (by kernel_rfl) (by kernel_rfl) (by kernel_rfl)) ?_
  intro W base args ds gs before hval0 hW hcnd _
  have hval : ∀ (j : Nat) t v, Try.f4.params[j]? = some t → args[j]? = some v → Value.okWide Try.prog W .any base t v := hval0
  have hW' := hW
  obtain ⟨p, q, hA0, hV, rfl, hfz, hnd⟩ := hW
  have hA : DataW.TrodAll enc Try.prog W 0 (fun _ => true) true Try.f4.params.toList args.toList ds p := hA0
  rw [Try.params4] at hA hval
  obtain ⟨v0, vs0, d0, ds0, p0, q0, hargs, rfl, rfl, h0, r0⟩ := trodAll_cons hA
  obtain ⟨v1, vs1, d1, ds1, p1, q1, rfl, rfl, rfl, h1, r1⟩ := trodAll_cons r0
  obtain ⟨v2, vs2, d2, ds2, p2, q2, rfl, rfl, rfl, h2, r2⟩ := trodAll_cons r1
  obtain ⟨v3, vs3, d3, ds3, p3, q3, rfl, rfl, rfl, h3, r3⟩ := trodAll_cons r2
  obtain ⟨rfl, rfl, rfl⟩ := trodAll_nil r3
  obtain rfl : args = #[v0, v1, v2, v3] := by cases args; simp_all
  obtain ⟨rfl, rfl⟩ := trodVars_none hV
  obtain ⟨a0, rfl, rfl, rfl⟩ := open_bool Try.underlying4 (hval 0 4 v0 rfl rfl) h0
  obtain ⟨a1, rfl, rfl, rfl, w1⟩ := open_int Try.underlying22 (hval 1 22 v1 rfl rfl) h1
  obtain ⟨a2, rfl, rfl, rfl, w2⟩ := open_int Try.underlying22 (hval 2 22 v2 rfl rfl) h2
  obtain ⟨a3, rfl, rfl, rfl, w3⟩ := open_int Try.underlying22 (hval 3 22 v3 rfl rfl) h3
  clear hA0 hval0
  simp only [List.append_nil] at hW'
  refine (walk a0 a1 a2 a3 w1 w2 w3 W).mono fun e W' ⟨he, hg⟩ => ?_
  subst he
  exact ⟨_, rfl, post_of_same (pa := []) (pv := []) hW' (fun _ _ _ => (trodAll_cons_mk (shut_bool Try.underlying4 _) trodAll_mk0)) (fun sp _ => (trodAll_cons_mk (shut_bool Try.underlying4 _) (trodAll_cons_mk (shut_int Try.underlying22 w1) (trodAll_cons_mk (shut_int Try.underlying22 w2) (trodAll_cons_mk (shut_int Try.underlying22 w3) trodAll_mk0))))) (fun _ _ => rfl) rfl
    (hg.frame _) hg.2.1 (ok_one (by kernel_rfl) rfl (okWide_bool_mk Try.underlying4 _))⟩

theorem over : Rows.aluRulesRow.holds Try.pinned (OpenSpec.ofChange Rows.aluRulesSpec) :=
  OpenClaim.holds_of_wide 4 Try.f4 rfl rfl rfl rfl rfl rfl rfl ⟨rfl, rfl, rfl, rfl, rfl⟩ rfl rfl rfl rfl rfl (by kernel_rfl) Try.func4 (by kernel_rfl)
    (of_decide_eq_true (by kernel_rfl)) (by unfold Func.isWrapper; first | (rw [if_pos (by decide +kernel)]; kernel_rfl) | (rw [if_neg (by decide +kernel)]; exact ⟨rfl, rfl⟩))
    (fun os started H enc _ => lifted os started H enc)

theorem proved : Rows.AluRulesSaid :=
  over
end Go.Proofs.Ytmngficbohlnhaa.aluRules
namespace Go.Proofs.Ytmngficbohlnhaa
theorem aluRules_holds : Rows.AluRulesSaid :=
  aluRules.proved
#print axioms aluRules_holds
end Go.Proofs.Ytmngficbohlnhaa
