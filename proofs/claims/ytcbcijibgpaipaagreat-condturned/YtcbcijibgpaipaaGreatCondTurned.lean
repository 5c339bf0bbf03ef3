/- What is proved: CondTurned: a question that is turned tells the same of both numbers, turned, and the contrary question, answered contrarily, tells the same; for any two bounds about two numbers, any code, wide or not, answered so or not. No condition. -/
import Derived.Test.YtcbcijibgpaipaaGreatXTur
import Derived.Test.YtcbcijibgpaipaaGreatBU
import Derived.WalkKit
import Derived.ProofKit
import Derived.OpenShut
import Derived.ShutString
namespace Go.Proofs.YtcbcijibgpaipaaGreat.condTurned
open Go.ChangeShapes Go.WideShapes Go.ChangeAt Go.RowKit
open Go.ChangeMaps (open_string shut_string)
set_option linter.unusedVariables false

theorem bd_u32 {a : Int} (h : (Lit.int .u32 a).wf = true) : 0 ≤ a ∧ a ≤ 4294967295 := by simpa [Lit.wf, IntKind.min, IntKind.max, IntKind.signed, IntKind.bits] using h

theorem own : ownKnob Tryz.prog.godebug = none := by kernel_rfl

set_option maxRecDepth 100000 in
set_option maxHeartbeats 16000000 in
theorem walk (a0 : Int) (a1 : Int) (a2_0 a2_1 a2_2 a2_3 a2_4 a2_5 a2_6 : Int) (a3_0 a3_1 a3_2 a3_3 a3_4 a3_5 a3_6 : Int) (a4 : Int) (a5 : Bool) (a6 : Bool) (w0 : (Lit.int .u64 a0).wf = true) (w1 : (Lit.int .u64 a1).wf = true) (w2_0 : (Lit.int .u64 a2_0).wf = true) (w2_1 : (Lit.int .u64 a2_1).wf = true) (w2_2 : (Lit.int .u64 a2_2).wf = true) (w2_3 : (Lit.int .u64 a2_3).wf = true) (w2_4 : (Lit.int .u64 a2_4).wf = true) (w2_5 : (Lit.int .u32 a2_5).wf = true) (w2_6 : (Lit.int .u32 a2_6).wf = true) (w3_0 : (Lit.int .u64 a3_0).wf = true) (w3_1 : (Lit.int .u64 a3_1).wf = true) (w3_2 : (Lit.int .u64 a3_2).wf = true) (w3_3 : (Lit.int .u64 a3_3).wf = true) (w3_4 : (Lit.int .u64 a3_4).wf = true) (w3_5 : (Lit.int .u32 a3_5).wf = true) (w3_6 : (Lit.int .u32 a3_6).wf = true) (w4 : (Lit.int .u8 a4).wf = true) (w : World) :
    Calls Tryz.prog 8 #[.int .u64 a0, .int .u64 a1, .agg #[.int .u64 a2_0, .int .u64 a2_1, .int .u64 a2_2, .int .u64 a2_3, .int .u64 a2_4, .int .u32 a2_5, .int .u32 a2_6], .agg #[.int .u64 a3_0, .int .u64 a3_1, .int .u64 a3_2, .int .u64 a3_3, .int .u64 a3_4, .int .u32 a3_5, .int .u32 a3_6], .int .u8 a4, .bool a5, .bool a6] w fun e w' => e = .returned (.bool true) ∧ Grown w w' := by
  have hc : 0 ≤ a4 ∧ a4 ≤ 255 := by simpa [Lit.wf, IntKind.min, IntKind.max, IntKind.signed, IntKind.bits] using w4
  have k := turned_law ⟨bu a2_0, a2_1, a2_2, a2_3, a2_4, a2_5, a2_6⟩ ⟨bu a3_0, a3_1, a3_2, a3_3, a3_4, a3_5, a3_6⟩ ⟨bd_u64 w2_1, bd_u64 w2_2, bd_u64 w2_3, bd_u64 w2_4, bd_u32 w2_5, bd_u32 w2_6⟩ ⟨bd_u64 w3_1, bd_u64 w3_2, bd_u64 w3_3, bd_u64 w3_4, bd_u32 w3_5, bd_u32 w3_6⟩ (bu a0) (bu a1) a4 hc.1 hc.2 a5 a6 w
  simp only [iv_bu (bd_u64 w2_0), iv_bu (bd_u64 w3_0), iv_bu (bd_u64 w0), iv_bu (bd_u64 w1)] at k
  exact k.mono fun e w' h => ⟨h.1, h.2.grown⟩

set_option maxRecDepth 100000 in
theorem lifted (os : Os) (started : os.Started) (H : Type) (enc : TypeId × Value → H) :
    ReturnsInHanded {} Tryz.checked os 8 .any (Rows.condTurnedSpec.pre6 enc Tryz.prog Tryz.f8 Rows.condTurnedRow.domain false) (Rows.condTurnedSpec.post enc Tryz.prog Tryz.f8 false true false false) := by
  refine returnsInHanded_of_change (C := Tryz.checked) own started (by kernel_rfl) Tryz.func8
    (ChangeSpec.witness6 (enc := enc) (C := Tryz.checked) false ⟨#[], #[.int .u64 0, .int .u64 0, .agg #[.int .u64 0, .int .u64 0, .int .u64 0, .int .u64 0, .int .u64 0, .int .u32 0, .int .u32 0], .agg #[.int .u64 0, .int .u64 0, .int .u64 0, .int .u64 0, .int .u64 0, .int .u32 0, .int .u32 0], .int .u8 0, .bool false, .bool false], []⟩ 8 (by kernel_rfl) (by kernel_rfl) (by kernel_rfl) (by kernel_rfl)) ?_
  intro W base args ds gs before hval0 hW hcnd _
  have hval : ∀ (j : Nat) t v, Tryz.f8.params[j]? = some t → args[j]? = some v → Value.okWide Tryz.prog W .any base t v := hval0
  have hW' := hW
  obtain ⟨p, q, hA0, hV, rfl, hfz, hnd⟩ := hW
  have hA : DataW.TrodAll enc Tryz.prog W 0 (fun _ => true) true Tryz.f8.params.toList args.toList ds p := hA0
  rw [Tryz.params8] at hA hval
  obtain ⟨v0, vs0, d0, ds0, p0, q0, hargs, rfl, rfl, h0, r0⟩ := trodAll_cons hA
  obtain ⟨v1, vs1, d1, ds1, p1, q1, rfl, rfl, rfl, h1, r1⟩ := trodAll_cons r0
  obtain ⟨v2, vs2, d2, ds2, p2, q2, rfl, rfl, rfl, h2, r2⟩ := trodAll_cons r1
  obtain ⟨v3, vs3, d3, ds3, p3, q3, rfl, rfl, rfl, h3, r3⟩ := trodAll_cons r2
  obtain ⟨v4, vs4, d4, ds4, p4, q4, rfl, rfl, rfl, h4, r4⟩ := trodAll_cons r3
  obtain ⟨v5, vs5, d5, ds5, p5, q5, rfl, rfl, rfl, h5, r5⟩ := trodAll_cons r4
  obtain ⟨v6, vs6, d6, ds6, p6, q6, rfl, rfl, rfl, h6, r6⟩ := trodAll_cons r5
  obtain ⟨rfl, rfl, rfl⟩ := trodAll_nil r6
  obtain rfl : args = #[v0, v1, v2, v3, v4, v5, v6] := by cases args; simp_all
  obtain ⟨rfl, rfl⟩ := trodVars_none hV
  obtain ⟨a0, rfl, rfl, rfl, w0⟩ := open_int Tryz.underlying22 (hval 0 22 v0 rfl rfl) h0
  obtain ⟨a1, rfl, rfl, rfl, w1⟩ := open_int Tryz.underlying22 (hval 1 22 v1 rfl rfl) h1
  obtain ⟨a2_0, a2_1, a2_2, a2_3, a2_4, a2_5, a2_6, rfl, rfl, rfl, w2_0, w2_1, w2_2, w2_3, w2_4, w2_5, w2_6⟩ := open_about (hval 2 43 v2 rfl rfl) h2
  obtain ⟨a3_0, a3_1, a3_2, a3_3, a3_4, a3_5, a3_6, rfl, rfl, rfl, w3_0, w3_1, w3_2, w3_3, w3_4, w3_5, w3_6⟩ := open_about (hval 3 43 v3 rfl rfl) h3
  obtain ⟨a4, rfl, rfl, rfl, w4⟩ := open_int Tryz.underlying5 (hval 4 5 v4 rfl rfl) h4
  obtain ⟨a5, rfl, rfl, rfl⟩ := open_bool Tryz.underlying4 (hval 5 4 v5 rfl rfl) h5
  obtain ⟨a6, rfl, rfl, rfl⟩ := open_bool Tryz.underlying4 (hval 6 4 v6 rfl rfl) h6
  clear hA0 hval0
  simp only [List.append_nil] at hW'
  refine (walk a0 a1 a2_0 a2_1 a2_2 a2_3 a2_4 a2_5 a2_6 a3_0 a3_1 a3_2 a3_3 a3_4 a3_5 a3_6 a4 a5 a6 w0 w1 w2_0 w2_1 w2_2 w2_3 w2_4 w2_5 w2_6 w3_0 w3_1 w3_2 w3_3 w3_4 w3_5 w3_6 w4 W).mono fun e W' ⟨he, hg⟩ => ?_
  subst he
  exact ⟨_, rfl, post_of_same (pa := []) (pv := []) hW' (fun _ _ _ => (trodAll_cons_mk (shut_bool Tryz.underlying4 _) trodAll_mk0)) (fun sp _ => (trodAll_cons_mk (shut_int Tryz.underlying22 w0) (trodAll_cons_mk (shut_int Tryz.underlying22 w1) (trodAll_cons_mk (shut_about w2_0 w2_1 w2_2 w2_3 w2_4 w2_5 w2_6) (trodAll_cons_mk (shut_about w3_0 w3_1 w3_2 w3_3 w3_4 w3_5 w3_6) (trodAll_cons_mk (shut_int Tryz.underlying5 w4) (trodAll_cons_mk (shut_bool Tryz.underlying4 _) (trodAll_cons_mk (shut_bool Tryz.underlying4 _) trodAll_mk0)))))))) (fun _ _ => rfl) rfl
    (hg.frame _) hg.2.1 (ok_one (by kernel_rfl) rfl (okWide_bool_mk Tryz.underlying4 _))⟩

theorem over : Rows.condTurnedRow.holds Tryz.pinned (OpenSpec.ofChange Rows.condTurnedSpec) :=
  OpenClaim.holds_of_wide 8 Tryz.f8 rfl rfl rfl rfl rfl rfl rfl ⟨rfl, rfl, rfl, rfl, rfl⟩ rfl rfl rfl rfl rfl (by kernel_rfl) Tryz.func8 (by kernel_rfl)
    (of_decide_eq_true (by kernel_rfl)) (by unfold Func.isWrapper; first | (rw [if_pos (by decide +kernel)]; kernel_rfl) | (rw [if_neg (by decide +kernel)]; exact ⟨rfl, rfl⟩))
    (fun os started H enc _ => lifted os started H enc)

theorem proved : Rows.CondTurnedSaid :=
  over
end Go.Proofs.YtcbcijibgpaipaaGreat.condTurned
namespace Go.Proofs.YtcbcijibgpaipaaGreat
theorem condTurned_holds : Rows.CondTurnedSaid :=
  condTurned.proved
#print axioms condTurned_holds
end Go.Proofs.YtcbcijibgpaipaaGreat
