/- TypesSound, for every table: of a table that may be each byte of a type is plain, or just one field's; fields stand whole; what holds holds objects by a field of the right kind; names are names, each once. No conditions. -/
import Derived.Test.YtmcjmdoeafhjpaaSB
import Derived.WalkKit
import Derived.ProofKit
import Derived.OpenShut
import Derived.ShutString
namespace Go.Proofs.Ytmcjmdoeafhjpaa.typesSound
open Go.ChangeShapes Go.WideShapes Go.ChangeAt Go.RowKit
open Go.ChangeMaps (open_string shut_string)
set_option linter.unusedVariables false
set_option linter.unusedSimpArgs false

theorem own : ownKnob Try.prog.godebug = none := by kernel_rfl

set_option maxRecDepth 100000 in
set_option maxHeartbeats 16000000 in
theorem walk (p0 : Option Addr) (L0 : List Ty) (c0 : Nat) (w : World) (hc0 : L0.length ≤ c0 ∧ c0 ≤ maxLen) (hL0 : Tys w p0 L0) :
    Calls Try.prog 6 #[.slice p0 L0.length c0] w fun e w' => e = .returned (.bool true) ∧ Below w.heap.size w w' := by
  have hal := fun W => alive_any W
  have kl := large_any p0 c0 L0 w hL0
  cases q0 : largeM L0 with
  | true =>
    rw [q0] at kl
    go_enter Try.func6, Try.ntmps6
    go_wp2_with first | (go_at_call 8; refine kl.mono ?_; rintro e v1 ⟨rfl, hw⟩; rw [hw]; clear hw) | (go_at_call 9; refine (hal _).mono ?_; rintro e v2 ⟨rfl, hb⟩)
    go_returns
    exact ⟨rfl, hb⟩
  | false =>
  by_cases hz : (chkM L0).2.2 = 0
  · exact sound_any p0 c0 L0 hc0 w hL0 q0 hz
  rw [q0] at kl
  have kc := check_any p0 c0 L0 hc0 w hL0 (large_fit q0)
  unfold chkV at kc
  generalize chkM L0 = r at kc hz
  have d1 : (r.2.2 != 0) = true := by simpa using hz
  clear hz
  go_enter Try.func6, Try.ntmps6
  go_wp2_with first | (go_at_call 8; refine kl.mono ?_; rintro e v1 ⟨rfl, hw⟩; rw [hw]; clear hw) | (go_at_call 16; refine kc.mono ?_; rintro e v3 ⟨rfl, hb3⟩) | (go_at_call 9; refine (hal _).mono ?_; rintro e v2 ⟨rfl, hb⟩)
  go_returns
  exact ⟨rfl, hb3.trans hb⟩

theorem readable : ∀ t ∈ Try.f6.params.toList, Try.prog.readableRec t = true ∧ t < Try.prog.types.size := by
  rw [Try.params6]
  intro t ht
  simp at ht
  rcases ht with rfl
  all_goals exact ⟨by kernel_rfl, of_decide_eq_true (by kernel_rfl)⟩
set_option maxRecDepth 100000 in
theorem lifted (os : Os) (started : os.Started) (H : Type) (enc : TypeId × Value → H) :
    ReturnsInHanded {} Try.checked os 6 .any (Rows.typesSoundSpec.pre6 enc Try.prog Try.f6 Rows.typesSoundRow.domain false) (Rows.typesSoundSpec.post enc Try.prog Try.f6 false true false false) := by
  refine returnsInHanded_of_change (C := Try.checked) own started (by kernel_rfl) Try.func6
    (ChangeSpec.witness6 (enc := enc) (C := Try.checked) false ⟨#[], #[.slice none 0 0], []⟩ 8 (by kernel_rfl) (by kernel_rfl) (by kernel_rfl) (by kernel_rfl)) ?_
  intro W base args ds gs before hval0 hW hcnd _
  have hval : ∀ (j : Nat) t v, Try.f6.params[j]? = some t → args[j]? = some v → Value.okWide Try.prog W .any base t v := hval0
  have hW' := hW
  obtain ⟨p, q, hA0, hV, rfl, hfz, hnd⟩ := hW
  have hA : DataW.TrodAll enc Try.prog W 0 (fun _ => true) true Try.f6.params.toList args.toList ds p := hA0
  rw [Try.params6] at hA hval
  obtain ⟨v0, vs0, d0, ds0, p0, q0, hargs, rfl, rfl, h0, r0⟩ := trodAll_cons hA
  obtain ⟨rfl, rfl, rfl⟩ := trodAll_nil r0
  obtain rfl : args = #[v0] := by cases args; simp_all
  obtain ⟨rfl, rfl⟩ := trodVars_none hV
  obtain ⟨p0, L0, c0, rfl, hca0, hcb0, hL0⟩ := open_tys (hval 0 22 v0 rfl rfl) h0
  clear hA0 hval0
  refine (walk p0 L0 c0 W ⟨hca0, hcb0⟩ hL0).mono fun e W' ⟨he, hg⟩ => ?_
  subst he
  exact ⟨_, rfl, post_bel readable hW' rfl (fun _ _ _ => (trodAll_cons_mk (shut_bool Try.underlying4 _) trodAll_mk0)) rfl (fun _ => rfl)
    hg (ok_one (by kernel_rfl) rfl (okWide_bool_mk Try.underlying4 _))⟩

theorem over : Rows.typesSoundRow.holds Try.pinned (OpenSpec.ofChange Rows.typesSoundSpec) :=
  OpenClaim.holds_of_wide 6 Try.f6 rfl rfl rfl rfl rfl rfl rfl ⟨rfl, rfl, rfl, rfl, rfl⟩ rfl rfl rfl rfl rfl (by kernel_rfl) Try.func6 (by kernel_rfl)
    (of_decide_eq_true (by kernel_rfl)) (by unfold Func.isWrapper; first | (rw [if_pos (by decide +kernel)]; kernel_rfl) | (rw [if_neg (by decide +kernel)]; exact ⟨rfl, rfl⟩))
    (fun os started H enc _ => lifted os started H enc)

theorem proved : Rows.TypesSoundSaid :=
  over
end Go.Proofs.Ytmcjmdoeafhjpaa.typesSound
namespace Go.Proofs.Ytmcjmdoeafhjpaa
theorem typesSound_holds : Rows.TypesSoundSaid :=
  typesSound.proved
#print axioms typesSound_holds
end Go.Proofs.Ytmcjmdoeafhjpaa
