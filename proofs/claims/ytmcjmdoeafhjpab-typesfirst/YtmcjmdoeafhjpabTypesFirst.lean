/- TypesFirst, for every two tables: what is wrong with a type by itself, and by those ahead of it, is told, whatever types stand behind it. No conditions. -/
import Derived.Test.YtmcjmdoeafhjpabPF
import Derived.WalkKit
import Derived.ProofKit
import Derived.OpenShut
import Derived.ShutString
namespace Go.Proofs.Ytmcjmdoeafhjpab.typesFirst
open Go.ChangeShapes Go.WideShapes Go.ChangeAt Go.RowKit
open Go.ChangeMaps (open_string shut_string)
set_option linter.unusedVariables false
set_option linter.unusedSimpArgs false

theorem own : ownKnob Try.prog.godebug = none := by kernel_rfl

set_option maxRecDepth 100000 in
set_option maxHeartbeats 16000000 in
theorem walk (p0 : Option Addr) (L0 : List Ty) (c0 : Nat) (p1 : Option Addr) (L1 : List Ty) (c1 : Nat) (w : World) (hc0 : L0.length ≤ c0 ∧ c0 ≤ maxLen) (hL0 : Tys w p0 L0) (hc1 : L1.length ≤ c1 ∧ c1 ≤ maxLen) (hN1 : ∀ n c, Value.slice p1 L1.length c1 = .slice none n c → c = 0) (hL1 : Tys w p1 L1) :
    Calls Try.prog 4 #[.slice p0 L0.length c0, .slice p1 L1.length c1] w fun e w' => e = .returned (.bool true) ∧ Below w.heap.size w w' := by
  have hal := fun W => alive_any W
  have kl0 := large_any p0 c0 L0 w hL0
  have kl1 := large_any p1 c1 L1 w hL1
  cases q0 : largeM L0 with
  | true =>
    rw [q0] at kl0
    go_enter Try.func4, Try.ntmps4
    go_wp2_with first | (go_at_call 5; refine kl0.mono ?_; rintro e v1 ⟨rfl, hw⟩; rw [hw]; clear hw) | (go_at_call 6; refine (hal _).mono ?_; rintro e v2 ⟨rfl, hb⟩)
    go_returns
    exact ⟨rfl, hb⟩
  | false =>
  rw [q0] at kl0
  cases q1 : largeM L1 with
  | true =>
    rw [q1] at kl1
    go_enter Try.func4, Try.ntmps4
    go_wp2_with first | (go_at_call_of 5 L0.length; refine kl0.mono ?_; rintro e v1 ⟨rfl, hw⟩; rw [hw]; clear hw) | (go_at_call_of 5 L1.length; refine kl1.mono ?_; rintro e v1 ⟨rfl, hw⟩; rw [hw]; clear hw) | (go_at_call 6; refine (hal _).mono ?_; rintro e v2 ⟨rfl, hb⟩)
    go_returns
    exact ⟨rfl, hb⟩
  | false =>
  rw [q1] at kl1
  by_cases hz : (chkM L0).2.2 = 0 ∨ (chkM L0).2.2 = 105
  · have kc := check_any p0 c0 L0 hc0 w hL0 (large_fit q0)
    unfold chkV at kc
    generalize chkM L0 = r at kc hz
    rcases hz with hz | hz
    all_goals
      rw [hz] at kc
      clear hz
      go_enter Try.func4, Try.ntmps4
      go_wp2_with first | (go_at_call_of 5 L0.length; refine kl0.mono ?_; rintro e v1 ⟨rfl, hw⟩; rw [hw]; clear hw) | (go_at_call_of 5 L1.length; refine kl1.mono ?_; rintro e v1 ⟨rfl, hw⟩; rw [hw]; clear hw) | (go_at_call 7; refine kc.mono ?_; rintro e v3 ⟨rfl, hb3⟩) | (go_at_call 6; refine (hal _).mono ?_; rintro e v2 ⟨rfl, hb⟩)
      go_returns
      exact ⟨rfl, hb3.trans hb⟩
  · exact first_law p0 c0 L0 hc0 p1 c1 L1 w hL0 hL1 (fun e => hN1 _ _ (by rw [e])) q0 q1 (fun e => hz (.inl e)) (fun e => hz (.inr e))

theorem readable : ∀ t ∈ Try.f4.params.toList, Try.prog.readableRec t = true ∧ t < Try.prog.types.size := by
  rw [Try.params4]
  intro t ht
  simp at ht
  rcases ht with rfl | rfl
  all_goals exact ⟨by kernel_rfl, of_decide_eq_true (by kernel_rfl)⟩
set_option maxRecDepth 100000 in
theorem lifted (os : Os) (started : os.Started) (H : Type) (enc : TypeId × Value → H) :
    ReturnsInHanded {} Try.checked os 4 .any (Rows.typesFirstSpec.pre6 enc Try.prog Try.f4 Rows.typesFirstRow.domain false) (Rows.typesFirstSpec.post enc Try.prog Try.f4 false true false false) := by
  refine returnsInHanded_of_change (C := Try.checked) own started (by kernel_rfl) Try.func4
    (ChangeSpec.witness6 (enc := enc) (C := Try.checked) false ⟨#[], #[.slice none 0 0, .slice none 0 0], []⟩ 8 (by kernel_rfl) (by kernel_rfl) (by kernel_rfl) (by kernel_rfl)) ?_
  intro W base args ds gs before hval0 hW hcnd _
  have hval : ∀ (j : Nat) t v, Try.f4.params[j]? = some t → args[j]? = some v → Value.okWide Try.prog W .any base t v := hval0
  have hW' := hW
  obtain ⟨p, q, hA0, hV, rfl, hfz, hnd⟩ := hW
  have hA : DataW.TrodAll enc Try.prog W 0 (fun _ => true) true Try.f4.params.toList args.toList ds p := hA0
  rw [Try.params4] at hA hval
  obtain ⟨v0, vs0, d0, ds0, p0, q0, hargs, rfl, rfl, h0, r0⟩ := trodAll_cons hA
  obtain ⟨v1, vs1, d1, ds1, p1, q1, rfl, rfl, rfl, h1, r1⟩ := trodAll_cons r0
  obtain ⟨rfl, rfl, rfl⟩ := trodAll_nil r1
  obtain rfl : args = #[v0, v1] := by cases args; simp_all
  obtain ⟨rfl, rfl⟩ := trodVars_none hV
  obtain ⟨p0, L0, c0, rfl, hca0, hcb0, hL0⟩ := open_tys (hval 0 22 v0 rfl rfl) h0
  have hN1 := none_cap (hval 1 22 v1 rfl rfl) h1
  obtain ⟨p1, L1, c1, rfl, hca1, hcb1, hL1⟩ := open_tys (hval 1 22 v1 rfl rfl) h1
  clear hA0 hval0
  refine (walk p0 L0 c0 p1 L1 c1 W ⟨hca0, hcb0⟩ hL0 ⟨hca1, hcb1⟩ hN1 hL1).mono fun e W' ⟨he, hg⟩ => ?_
  subst he
  exact ⟨_, rfl, post_bel readable hW' rfl (fun _ _ _ => (trodAll_cons_mk (shut_bool Try.underlying4 _) trodAll_mk0)) rfl (fun _ => rfl)
    hg (ok_one (by kernel_rfl) rfl (okWide_bool_mk Try.underlying4 _))⟩

theorem over : Rows.typesFirstRow.holds Try.pinned (OpenSpec.ofChange Rows.typesFirstSpec) :=
  OpenClaim.holds_of_wide 4 Try.f4 rfl rfl rfl rfl rfl rfl rfl ⟨rfl, rfl, rfl, rfl, rfl⟩ rfl rfl rfl rfl rfl (by kernel_rfl) Try.func4 (by kernel_rfl)
    (of_decide_eq_true (by kernel_rfl)) (by unfold Func.isWrapper; first | (rw [if_pos (by decide +kernel)]; kernel_rfl) | (rw [if_neg (by decide +kernel)]; exact ⟨rfl, rfl⟩))
    (fun os started H enc _ => lifted os started H enc)

theorem proved : Rows.TypesFirstSaid :=
  over
end Go.Proofs.Ytmcjmdoeafhjpab.typesFirst
namespace Go.Proofs.Ytmcjmdoeafhjpab
theorem typesFirst_holds : Rows.TypesFirstSaid :=
  typesFirst.proved
#print axioms typesFirst_holds
end Go.Proofs.Ytmcjmdoeafhjpab
