/- CodeStays, for every program, number and row of choices: whoever begins at a subprogram's beginning stays within it; a chain of calls has no more subprograms than there are. No conditions. -/
import Derived.Test.YtdmdmbcapjmnlaaGreatSL
import Derived.WalkKit
import Derived.ProofKit
import Derived.OpenShut
import Derived.ShutString
namespace Go.Proofs.YtdmdmbcapjmnlaaGreat.codeStays
open Go.ChangeShapes Go.WideShapes Go.ChangeAt Go.RowKit
open Go.ChangeMaps (open_string shut_string)
set_option linter.unusedVariables false
set_option linter.unusedSimpArgs false

theorem own : ownKnob Tryz.prog.godebug = none := by kernel_rfl

set_option maxRecDepth 100000 in
set_option maxHeartbeats 16000000 in
theorem walk (a0 : Option Addr) (n0 c0 : Nat) (a1 : Int) (a2 : Option Addr) (n2 c2 : Nat) (C2 : List Int) (w : World) (hs0 : n0 ≤ 4096 → ∃ L : List Sl, L.length = n0 ∧ Slots AnyB w (.slice a0 n0 c0) L) (w1 : (Lit.int .u8 a1).wf = true) (hl2 : C2.length = n2) (hr2 : Row8 w (.slice a2 n2 c2) C2) :
    Calls Tryz.prog 5 #[.slice a0 n0 c0, .int .u8 a1, .slice a2 n2 c2] w fun e w' => e = .returned (.bool true) ∧ Below w.heap.size w w' := by
  obtain ⟨f0, f1⟩ := wf_u8 w1
  by_cases h : 200 < n0
  · have hal := fun W => alive_any W
    have d1 : decide ((200 : Int) < n0) = true := by simp; omega
    go_enter Tryz.func5, Tryz.ntmps5
    go_wp2_with first | (go_at_call 7; refine (hal _).mono ?_; rintro e w1 ⟨rfl, hb⟩)
    go_returns
    exact ⟨rfl, hb⟩
  · obtain ⟨L, hl, hL⟩ := hs0 (by omega)
    exact stays_any _ _ L C2 a1 ⟨f0, f1⟩ (by omega) w hL hr2

theorem readable : ∀ t ∈ Tryz.f5.params.toList, Tryz.prog.readableRec t = true ∧ t < Tryz.prog.types.size := by
  rw [Tryz.params5]
  intro t ht
  simp at ht
  rcases ht with rfl | rfl | rfl
  all_goals exact ⟨by kernel_rfl, of_decide_eq_true (by kernel_rfl)⟩
set_option maxRecDepth 100000 in
theorem lifted (os : Os) (started : os.Started) (H : Type) (enc : TypeId × Value → H) :
    ReturnsInHanded {} Tryz.checked os 5 .any (Rows.codeStaysSpec.pre6 enc Tryz.prog Tryz.f5 Rows.codeStaysRow.domain false) (Rows.codeStaysSpec.post enc Tryz.prog Tryz.f5 false true false false) := by
  refine returnsInHanded_of_change (C := Tryz.checked) own started (by kernel_rfl) Tryz.func5
    (ChangeSpec.witness6 (enc := enc) (C := Tryz.checked) false ⟨#[], #[.slice none 0 0, .int .u8 0, .slice none 0 0], []⟩ 8 (by kernel_rfl) (by kernel_rfl) (by kernel_rfl) (by kernel_rfl)) ?_
  intro W base args ds gs before hval0 hW hcnd _
  have hval : ∀ (j : Nat) t v, Tryz.f5.params[j]? = some t → args[j]? = some v → Value.okWide Tryz.prog W .any base t v := hval0
  have hW' := hW
  obtain ⟨p, q, hA0, hV, rfl, hfz, hnd⟩ := hW
  have hA : DataW.TrodAll enc Tryz.prog W 0 (fun _ => true) true Tryz.f5.params.toList args.toList ds p := hA0
  rw [Tryz.params5] at hA hval
  obtain ⟨v0, vs0, d0, ds0, p0, q0, hargs, rfl, rfl, h0, r0⟩ := trodAll_cons hA
  obtain ⟨v1, vs1, d1, ds1, p1, q1, rfl, rfl, rfl, h1, r1⟩ := trodAll_cons r0
  obtain ⟨v2, vs2, d2, ds2, p2, q2, rfl, rfl, rfl, h2, r2⟩ := trodAll_cons r1
  obtain ⟨rfl, rfl, rfl⟩ := trodAll_nil r2
  obtain rfl : args = #[v0, v1, v2] := by cases args; simp_all
  obtain ⟨rfl, rfl⟩ := trodVars_none hV
  obtain ⟨a0, n0, c0, rfl, hs0⟩ := open_slots (hval 0 22 v0 rfl rfl) h0
  obtain ⟨a1, rfl, rfl, rfl, w1⟩ := open_int Tryz.underlying5 (hval 1 5 v1 rfl rfl) h1
  obtain ⟨a2, n2, c2, rfl, C2, hl2, hr2⟩ := open_row8 (hval 2 46 v2 rfl rfl) h2
  clear hA0 hval0
  refine (walk a0 n0 c0 a1 a2 n2 c2 C2 W hs0 w1 hl2 hr2).mono fun e W' ⟨he, hg⟩ => ?_
  subst he
  exact ⟨_, rfl, post_bel readable hW' rfl (fun _ _ _ => (trodAll_cons_mk (shut_bool Tryz.underlying4 _) trodAll_mk0)) rfl (fun _ => rfl)
    hg (ok_one (by kernel_rfl) rfl (okWide_bool_mk Tryz.underlying4 _))⟩

theorem over : Rows.codeStaysRow.holds Tryz.pinned (OpenSpec.ofChange Rows.codeStaysSpec) :=
  OpenClaim.holds_of_wide 5 Tryz.f5 rfl rfl rfl rfl rfl rfl rfl ⟨rfl, rfl, rfl, rfl, rfl⟩ rfl rfl rfl rfl rfl (by kernel_rfl) Tryz.func5 (by kernel_rfl)
    (of_decide_eq_true (by kernel_rfl)) (by unfold Func.isWrapper; first | (rw [if_pos (by decide +kernel)]; kernel_rfl) | (rw [if_neg (by decide +kernel)]; exact ⟨rfl, rfl⟩))
    (fun os started H enc _ => lifted os started H enc)

theorem proved : Rows.CodeStaysSaid :=
  over
end Go.Proofs.YtdmdmbcapjmnlaaGreat.codeStays
namespace Go.Proofs.YtdmdmbcapjmnlaaGreat
theorem codeStays_holds : Rows.CodeStaysSaid :=
  codeStays.proved
#print axioms codeStays_holds
end Go.Proofs.YtdmdmbcapjmnlaaGreat
