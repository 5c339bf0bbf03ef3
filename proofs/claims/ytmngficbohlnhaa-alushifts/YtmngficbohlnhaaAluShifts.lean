/- For every number and every shift, wide or not, the statement AluShifts of layer 2 returns true: shifts are products with, and quotients by, powers of two, counted modulo the bits that there are, and one with a sign is rounded down; no condition. -/
import Derived.Test.YtmngficbohlnhaaShifts
import Derived.WalkKit
import Derived.ProofKit
import Derived.OpenShut
import Derived.ShutString
namespace Go.Proofs.Ytmngficbohlnhaa.aluShifts
open Go.ChangeShapes Go.WideShapes Go.ChangeAt Go.RowKit
open Go.ChangeMaps (open_string shut_string)
set_option linter.unusedVariables false      -- a walk need not use every 'w<i>' (that an integer argument fits its kind)

theorem own : ownKnob Try.prog.godebug = none := by kernel_rfl

/-! ### STEP 1: THE WALK: the Go text returns true. 'Grown w w'': the world has at most new blocks (Derived/RowKit3.lean). Part the cases AHEAD of 'go_enter' where a test parts the walk; take each callee by a contract of your own. -/
set_option maxRecDepth 100000 in
set_option maxHeartbeats 4000000 in
theorem walk (a0 : Bool) (a1 : Int) (a2 : Int) (w1 : (Lit.int .u64 a1).wf = true) (w2 : (Lit.int .u16 a2).wf = true) (w : World) :
    Calls Try.prog 7 #[.bool a0, .int .u64 a1, .int .u16 a2] w fun e w' => e = .returned (.bool true) ∧ Grown w w' := by
  have b1 := bd_u64 w1
  have b2' := bd_u16 w2
  have b2 : 0 ≤ a2 ∧ a2 ≤ 18446744073709551615 := by omega
  clear w1 w2
  have HG : Gr w w := Gr.refl w
  cases a0
  · have m2 : 0 ≤ a2 % 32 ∧ a2 % 32 ≤ 18446744073709551615 := by omega
    have e1 : doesV false 6 a1 a2 = doesV false 2 a1 (doesV true 6 1 (a2 % 32)) := sh1 false a1 a2
    have e2 : doesV false 7 a1 a2 = doesV false 3 a1 (doesV true 6 1 (a2 % 32)) := sh2 false a1 a2
    have k1 : (doesV false 6 a1 a2 != doesV false 2 a1 (doesV true 6 1 (a2 % 32))) = false := by rw [e1, bne_self_eq_false]
    have k2 : (doesV false 7 a1 a2 != doesV false 3 a1 (doesV true 6 1 (a2 % 32))) = false := by rw [e2, bne_self_eq_false]
    clear e1 e2
    have hb := (u64_bd false 11 0 a1)
    by_cases hs : 2 * doesV false 11 0 a1 < M false
    · have k3 : (doesV false 12 a1 a2 == doesV false 7 a1 a2) = true := by rw [sh3 false a1 a2 hs, beq_self_eq_true]
      have k4 : (doesV false 11 0 a1 / 2147483648 == 0) = true := by rw [show M false = 4294967296 from rfl] at hs; simp; omega
      clear hs
      go_enter Try.func7, Try.ntmps7
      go_wp2_with (first
        | (go_at_call 17; refine (does_fn _ _ _ _ (by omega) (by first | assumption | exact u64_bd _ _ _ _ | omega) (by first | assumption | exact u64_bd _ _ _ _ | omega) _).mono ?_; rintro e w' ⟨rfl, hg⟩; replace HG := HG.trans hg; clear hg)
        | (go_at_call 16; refine (alive_any _).mono ?_; rintro e w' ⟨rfl, hg⟩; replace HG := HG.trans hg; clear hg))
      go_ret
      exact ⟨rfl, HG.grown⟩
    · have k3 : (doesV false 12 a1 a2 == doesV false 10 (doesV false 7 (doesV false 10 a1 18446744073709551615) a2) 18446744073709551615) = true := by rw [sh4 false a1 a2 hs, beq_self_eq_true]
      have k4 : (doesV false 11 0 a1 / 2147483648 == 0) = false := by rw [show M false = 4294967296 from rfl] at hs; simp; omega
      clear hs
      go_enter Try.func7, Try.ntmps7
      go_wp2_with (first
        | (go_at_call 17; refine (does_fn _ _ _ _ (by omega) (by first | assumption | exact u64_bd _ _ _ _ | omega) (by first | assumption | exact u64_bd _ _ _ _ | omega) _).mono ?_; rintro e w' ⟨rfl, hg⟩; replace HG := HG.trans hg; clear hg)
        | (go_at_call 16; refine (alive_any _).mono ?_; rintro e w' ⟨rfl, hg⟩; replace HG := HG.trans hg; clear hg))
      go_ret
      exact ⟨rfl, HG.grown⟩
  · have m2 : 0 ≤ a2 % 64 ∧ a2 % 64 ≤ 18446744073709551615 := by omega
    have e1 : doesV true 6 a1 a2 = doesV true 2 a1 (doesV true 6 1 (a2 % 64)) := sh1 true a1 a2
    have e2 : doesV true 7 a1 a2 = doesV true 3 a1 (doesV true 6 1 (a2 % 64)) := sh2 true a1 a2
    have k1 : (doesV true 6 a1 a2 != doesV true 2 a1 (doesV true 6 1 (a2 % 64))) = false := by rw [e1, bne_self_eq_false]
    have k2 : (doesV true 7 a1 a2 != doesV true 3 a1 (doesV true 6 1 (a2 % 64))) = false := by rw [e2, bne_self_eq_false]
    clear e1 e2
    have hb := (u64_bd true 11 0 a1)
    by_cases hs : 2 * doesV true 11 0 a1 < M true
    · have k3 : (doesV true 12 a1 a2 == doesV true 7 a1 a2) = true := by rw [sh3 true a1 a2 hs, beq_self_eq_true]
      have k4 : (doesV true 11 0 a1 / 9223372036854775808 == 0) = true := by rw [show M true = 18446744073709551616 from rfl] at hs; simp; omega
      clear hs
      go_enter Try.func7, Try.ntmps7
      go_wp2_with (first
        | (go_at_call 17; refine (does_fn _ _ _ _ (by omega) (by first | assumption | exact u64_bd _ _ _ _ | omega) (by first | assumption | exact u64_bd _ _ _ _ | omega) _).mono ?_; rintro e w' ⟨rfl, hg⟩; replace HG := HG.trans hg; clear hg)
        | (go_at_call 16; refine (alive_any _).mono ?_; rintro e w' ⟨rfl, hg⟩; replace HG := HG.trans hg; clear hg))
      go_ret
      exact ⟨rfl, HG.grown⟩
    · have k3 : (doesV true 12 a1 a2 == doesV true 10 (doesV true 7 (doesV true 10 a1 18446744073709551615) a2) 18446744073709551615) = true := by rw [sh4 true a1 a2 hs, beq_self_eq_true]
      have k4 : (doesV true 11 0 a1 / 9223372036854775808 == 0) = false := by rw [show M true = 18446744073709551616 from rfl] at hs; simp; omega
      clear hs
      go_enter Try.func7, Try.ntmps7
      go_wp2_with (first
        | (go_at_call 17; refine (does_fn _ _ _ _ (by omega) (by first | assumption | exact u64_bd _ _ _ _ | omega) (by first | assumption | exact u64_bd _ _ _ _ | omega) _).mono ?_; rintro e w' ⟨rfl, hg⟩; replace HG := HG.trans hg; clear hg)
        | (go_at_call 16; refine (alive_any _).mono ?_; rintro e w' ⟨rfl, hg⟩; replace HG := HG.trans hg; clear hg))
      go_ret
      exact ⟨rfl, HG.grown⟩

/-! ### THE ROW's STEP: WRITTEN OUT: LEAVE IT -/
set_option maxRecDepth 100000 in
theorem lifted (os : Os) (started : os.Started) (H : Type) (enc : TypeId × Value → H) :
    ReturnsInHanded {} Try.checked os 7 .any (Rows.aluShiftsSpec.pre6 enc Try.prog Try.f7 Rows.aluShiftsRow.domain false) (Rows.aluShiftsSpec.post enc Try.prog Try.f7 false true false false) := by
  refine returnsInHanded_of_change (C := Try.checked) own started (by kernel_rfl) Try.func7
    (ChangeSpec.witness6 (enc := enc) (C := Try.checked) false ⟨#[], #[.bool false, .int .u64 0, .int .u16 0], []⟩ 8 (by kernel_rfl) (by kernel_rfl) (by kernel_rfl) (by kernel_rfl)) ?_
  intro W base args ds gs before hval0 hW hcnd _
  have hval : ∀ (j : Nat) t v, Try.f7.params[j]? = some t → args[j]? = some v → Value.okWide Try.prog W .any base t v := hval0
  have hW' := hW
  obtain ⟨p, q, hA0, hV, rfl, hfz, hnd⟩ := hW
  have hA : DataW.TrodAll enc Try.prog W 0 (fun _ => true) true Try.f7.params.toList args.toList ds p := hA0
  rw [Try.params7] at hA hval
  obtain ⟨v0, vs0, d0, ds0, p0, q0, hargs, rfl, rfl, h0, r0⟩ := trodAll_cons hA
  obtain ⟨v1, vs1, d1, ds1, p1, q1, rfl, rfl, rfl, h1, r1⟩ := trodAll_cons r0
  obtain ⟨v2, vs2, d2, ds2, p2, q2, rfl, rfl, rfl, h2, r2⟩ := trodAll_cons r1
  obtain ⟨rfl, rfl, rfl⟩ := trodAll_nil r2
  obtain rfl : args = #[v0, v1, v2] := by cases args; simp_all
  obtain ⟨rfl, rfl⟩ := trodVars_none hV
  obtain ⟨a0, rfl, rfl, rfl⟩ := open_bool Try.underlying4 (hval 0 4 v0 rfl rfl) h0
  obtain ⟨a1, rfl, rfl, rfl, w1⟩ := open_int Try.underlying22 (hval 1 22 v1 rfl rfl) h1
  obtain ⟨a2, rfl, rfl, rfl, w2⟩ := open_int Try.underlying40 (hval 2 40 v2 rfl rfl) h2
  clear hA0 hval0
  simp only [List.append_nil] at hW'
  refine (walk a0 a1 a2 w1 w2 W).mono fun e W' ⟨he, hg⟩ => ?_
  subst he
  exact ⟨_, rfl, post_of_same (pa := []) (pv := []) hW' (fun _ _ _ => (trodAll_cons_mk (shut_bool Try.underlying4 _) trodAll_mk0)) (fun sp _ => (trodAll_cons_mk (shut_bool Try.underlying4 _) (trodAll_cons_mk (shut_int Try.underlying22 w1) (trodAll_cons_mk (shut_int Try.underlying40 w2) trodAll_mk0)))) (fun _ _ => rfl) rfl
    (hg.frame _) hg.2.1 (ok_one (by kernel_rfl) rfl (okWide_bool_mk Try.underlying4 _))⟩

theorem over : Rows.aluShiftsRow.holds Try.pinned (OpenSpec.ofChange Rows.aluShiftsSpec) :=
  OpenClaim.holds_of_wide 7 Try.f7 rfl rfl rfl rfl rfl rfl rfl ⟨rfl, rfl, rfl, rfl, rfl⟩ rfl rfl rfl rfl rfl (by kernel_rfl) Try.func7 (by kernel_rfl)
    (of_decide_eq_true (by kernel_rfl)) (by unfold Func.isWrapper; first | (rw [if_pos (by decide +kernel)]; kernel_rfl) | (rw [if_neg (by decide +kernel)]; exact ⟨rfl, rfl⟩))
    (fun os started H enc _ => lifted os started H enc)

theorem proved : Rows.AluShiftsSaid :=
  over
end Go.Proofs.Ytmngficbohlnhaa.aluShifts
namespace Go.Proofs.Ytmngficbohlnhaa
theorem aluShifts_holds : Rows.AluShiftsSaid :=
  aluShifts.proved
#print axioms aluShifts_holds
end Go.Proofs.Ytmngficbohlnhaa
