/- TypesPlains, for every table, every type of it, every place and size: bytes are plain just if each of them is, and a field's bytes are not. No conditions. -/
import Derived.Test.YtmcjmdoeafhjpabPL
import Derived.WalkKit
import Derived.ProofKit
import Derived.OpenShut
import Derived.ShutString
namespace Go.Proofs.Ytmcjmdoeafhjpab.typesPlains
open Go.ChangeShapes Go.WideShapes Go.ChangeAt Go.RowKit
open Go.ChangeMaps (open_string shut_string)
set_option linter.unusedVariables false
set_option linter.unusedSimpArgs false

theorem own : ownKnob Try.prog.godebug = none := by kernel_rfl

set_option maxRecDepth 100000 in
set_option maxHeartbeats 16000000 in
theorem walk (p0 : Option Addr) (L0 : List Ty) (c0 : Nat) (a1 : Int) (a2 : Int) (a3 : Int) (w : World) (hc0 : L0.length ≤ c0 ∧ c0 ≤ maxLen) (hL0 : Tys w p0 L0) (w1 : (Lit.int .u8 a1).wf = true) (w2 : (Lit.int .u8 a2).wf = true) (w3 : (Lit.int .u8 a3).wf = true) :
    Calls Try.prog 3 #[.slice p0 L0.length c0, .int .u8 a1, .int .u8 a2, .int .u8 a3] w fun e w' => e = .returned (.bool true) ∧ Below w.heap.size w w' := by
  have hal := fun W => alive_any W
  have kl := large_any p0 c0 L0 w hL0
  have b1 := wf_u8 w1
  have b2 := wf_u8 w2
  have b3 := wf_u8 w3
  cases q0 : largeM L0 with
  | true =>
    rw [q0] at kl
    go_enter Try.func3, Try.ntmps3
    go_wp2_with first | (go_at_call 5; refine kl.mono ?_; rintro e v1 ⟨rfl, hw⟩; rw [hw]; clear hw) | (go_at_call 6; refine (hal _).mono ?_; rintro e v2 ⟨rfl, hb⟩)
    go_returns
    exact ⟨rfl, hb⟩
  | false =>
  by_cases hn : L0 = []
  · rw [q0] at kl
    have d0 : ((L0.length : Int) == 0) = true := by rw [hn]; rfl
    clear hn
    go_enter Try.func3, Try.ntmps3
    go_wp2_with first | (go_at_call 5; refine kl.mono ?_; rintro e v1 ⟨rfl, hw⟩; rw [hw]; clear hw) | (go_at_call 6; refine (hal _).mono ?_; rintro e v2 ⟨rfl, hb⟩)
    go_returns
    exact ⟨rfl, hb⟩
  by_cases hz : (chkM L0).2.2 = 0
  · exact plains_any p0 c0 L0 hc0 a1 a2 a3 b1 b2 b3 w hL0 q0 hz hn
  rw [q0] at kl
  have d0 : ((L0.length : Int) == 0) = false := by have := List.length_pos_iff.2 hn; simp; omega
  have kc := check_any p0 c0 L0 hc0 w hL0 (large_fit q0)
  unfold chkV at kc
  generalize chkM L0 = r at kc hz
  have d1 : (r.2.2 != 0) = true := by simpa using hz
  clear hz hn
  go_enter Try.func3, Try.ntmps3
  go_wp2_with first | (go_at_call 5; refine kl.mono ?_; rintro e v1 ⟨rfl, hw⟩; rw [hw]; clear hw) | (go_at_call 7; refine kc.mono ?_; rintro e v3 ⟨rfl, hb3⟩) | (go_at_call 6; refine (hal _).mono ?_; rintro e v2 ⟨rfl, hb⟩)
  go_returns
  exact ⟨rfl, hb3.trans hb⟩

theorem readable : ∀ t ∈ Try.f3.params.toList, Try.prog.readableRec t = true ∧ t < Try.prog.types.size := by
  rw [Try.params3]
  intro t ht
  simp at ht
  rcases ht with rfl | rfl | rfl | rfl
  all_goals exact ⟨by kernel_rfl, of_decide_eq_true (by kernel_rfl)⟩
set_option maxRecDepth 100000 in
theorem lifted (os : Os) (started : os.Started) (H : Type) (enc : TypeId × Value → H) :
    ReturnsInHanded {} Try.checked os 3 .any (Rows.typesPlainsSpec.pre6 enc Try.prog Try.f3 Rows.typesPlainsRow.domain false) (Rows.typesPlainsSpec.post enc Try.prog Try.f3 false true false false) := by
  refine returnsInHanded_of_change (C := Try.checked) own started (by kernel_rfl) Try.func3
    (ChangeSpec.witness6 (enc := enc) (C := Try.checked) false ⟨#[], #[.slice none 0 0, .int .u8 0, .int .u8 0, .int .u8 0], []⟩ 8 (by kernel_rfl) (by kernel_rfl) (by kernel_rfl) (by kernel_rfl)) ?_
  intro W base args ds gs before hval0 hW hcnd _
  have hval : ∀ (j : Nat) t v, Try.f3.params[j]? = some t → args[j]? = some v → Value.okWide Try.prog W .any base t v := hval0
  have hW' := hW
  obtain ⟨p, q, hA0, hV, rfl, hfz, hnd⟩ := hW
  have hA : DataW.TrodAll enc Try.prog W 0 (fun _ => true) true Try.f3.params.toList args.toList ds p := hA0
  rw [Try.params3] at hA hval
  obtain ⟨v0, vs0, d0, ds0, p0, q0, hargs, rfl, rfl, h0, r0⟩ := trodAll_cons hA
  obtain ⟨v1, vs1, d1, ds1, p1, q1, rfl, rfl, rfl, h1, r1⟩ := trodAll_cons r0
  obtain ⟨v2, vs2, d2, ds2, p2, q2, rfl, rfl, rfl, h2, r2⟩ := trodAll_cons r1
  obtain ⟨v3, vs3, d3, ds3, p3, q3, rfl, rfl, rfl, h3, r3⟩ := trodAll_cons r2
  obtain ⟨rfl, rfl, rfl⟩ := trodAll_nil r3
  obtain rfl : args = #[v0, v1, v2, v3] := by cases args; simp_all
  obtain ⟨rfl, rfl⟩ := trodVars_none hV
  obtain ⟨p0, L0, c0, rfl, hca0, hcb0, hL0⟩ := open_tys (hval 0 22 v0 rfl rfl) h0
  obtain ⟨a1, rfl, rfl, rfl, w1⟩ := open_int Try.underlying5 (hval 1 5 v1 rfl rfl) h1
  obtain ⟨a2, rfl, rfl, rfl, w2⟩ := open_int Try.underlying5 (hval 2 5 v2 rfl rfl) h2
  obtain ⟨a3, rfl, rfl, rfl, w3⟩ := open_int Try.underlying5 (hval 3 5 v3 rfl rfl) h3
  clear hA0 hval0
  refine (walk p0 L0 c0 a1 a2 a3 W ⟨hca0, hcb0⟩ hL0 w1 w2 w3).mono fun e W' ⟨he, hg⟩ => ?_
  subst he
  exact ⟨_, rfl, post_bel readable hW' rfl (fun _ _ _ => (trodAll_cons_mk (shut_bool Try.underlying4 _) trodAll_mk0)) rfl (fun _ => rfl)
    hg (ok_one (by kernel_rfl) rfl (okWide_bool_mk Try.underlying4 _))⟩

theorem over : Rows.typesPlainsRow.holds Try.pinned (OpenSpec.ofChange Rows.typesPlainsSpec) :=
  OpenClaim.holds_of_wide 3 Try.f3 rfl rfl rfl rfl rfl rfl rfl ⟨rfl, rfl, rfl, rfl, rfl⟩ rfl rfl rfl rfl rfl (by kernel_rfl) Try.func3 (by kernel_rfl)
    (of_decide_eq_true (by kernel_rfl)) (by unfold Func.isWrapper; first | (rw [if_pos (by decide +kernel)]; kernel_rfl) | (rw [if_neg (by decide +kernel)]; exact ⟨rfl, rfl⟩))
    (fun os started H enc _ => lifted os started H enc)

theorem proved : Rows.TypesPlainsSaid :=
  over
end Go.Proofs.Ytmcjmdoeafhjpab.typesPlains
namespace Go.Proofs.Ytmcjmdoeafhjpab
theorem typesPlains_holds : Rows.TypesPlainsSaid :=
  typesPlains.proved
#print axioms typesPlains_holds
end Go.Proofs.Ytmcjmdoeafhjpab
