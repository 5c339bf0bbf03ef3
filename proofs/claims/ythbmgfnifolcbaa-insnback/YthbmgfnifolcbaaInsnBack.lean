/- What is proved: InsnBack: an instruction of registers below 16 that was written is read, bytes that are read are written as they were, unlike ones are unlike; for any two instructions, any text. No condition. -/
import Derived.Test.YthbmgfnifolcbaaBL1
import Derived.Test.YthbmgfnifolcbaaBL2
import Derived.Test.YthbmgfnifolcbaaBL3
import Derived.WalkKit
import Derived.ProofKit
import Derived.OpenShut
import Derived.ShutString
namespace Go.Proofs.Ythbmgfnifolcbaa.insnBack
open Go.ChangeShapes Go.WideShapes Go.ChangeAt Go.RowKit
open Go.ChangeMaps (open_string shut_string)
set_option linter.unusedVariables false

theorem own : ownKnob Try.prog.godebug = none := by kernel_rfl
open Go.PlainAid (bt get_bt bt_nonneg bt_le bt_end)

set_option maxRecDepth 100000 in
set_option maxHeartbeats 16000000 in
theorem walk (a0_0 a0_1 a0_2 a0_3 a0_4 : Int) (a1_0 a1_1 a1_2 a1_3 a1_4 : Int) (a2 : ByteArray) (w0_0 : (Lit.int .u8 a0_0).wf = true) (w0_1 : (Lit.int .u8 a0_1).wf = true) (w0_2 : (Lit.int .u8 a0_2).wf = true) (w0_3 : (Lit.int .i16 a0_3).wf = true) (w0_4 : (Lit.int .i32 a0_4).wf = true) (w1_0 : (Lit.int .u8 a1_0).wf = true) (w1_1 : (Lit.int .u8 a1_1).wf = true) (w1_2 : (Lit.int .u8 a1_2).wf = true) (w1_3 : (Lit.int .i16 a1_3).wf = true) (w1_4 : (Lit.int .i32 a1_4).wf = true) (w2 : a2.size ≤ maxLen) (w : World) :
    Calls Try.prog 5 #[ins a0_0 a0_1 a0_2 a0_3 a0_4, ins a1_0 a1_1 a1_2 a1_3 a1_4, .string a2] w fun e w' => e = .returned (.bool true) ∧ Below w.heap.size w w' := by
  have r0 := bd_u8 w0_0
  have r1 := bd_u8 w0_1
  have r2 := bd_u8 w0_2
  have r3 := bd_i16 w0_3
  have r4 := bd_i32 w0_4
  have t0 := bd_u8 w1_0
  have t1 := bd_u8 w1_1
  have t2 := bd_u8 w1_2
  have t3 := bd_i16 w1_3
  have t4 := bd_i32 w1_4
  by_cases hl : 4096 < a2.size
  · have hd : decide (4096 < (a2.size : Int)) = true := by simp; omega
    go_enter Try.func5, Try.ntmps5
    go_wp2_with (first | (go_at_call 8; refine (alive_any _).mono ?_; rintro e w' ⟨rfl, hb⟩))
    go_returns
    exact ⟨rfl, (((Below.refl _ w).alloc (Nat.le_refl _) _).alloc (by simp) _).trans (hb.mono (by simp; omega))⟩
  have hc : ¬ a0_0 = a1_0 ∨ (a1_0 = a0_0 ∧ ¬ a0_1 % 16 = a1_1 % 16) ∨ (a1_0 = a0_0 ∧ a1_1 % 16 = a0_1 % 16 ∧ ¬ a0_2 % 16 = a1_2 % 16) ∨ (a1_0 = a0_0 ∧ a1_1 % 16 = a0_1 % 16 ∧ a1_2 % 16 = a0_2 % 16 ∧ ¬ a0_3 = a1_3) ∨ (a1_0 = a0_0 ∧ a1_1 % 16 = a0_1 % 16 ∧ a1_2 % 16 = a0_2 % 16 ∧ a1_3 = a0_3 ∧ ¬ a0_4 = a1_4) ∨ (a1_0 = a0_0 ∧ a1_1 % 16 = a0_1 % 16 ∧ a1_2 % 16 = a0_2 % 16 ∧ a1_3 = a0_3 ∧ a1_4 = a0_4) := by omega
  rcases Nat.lt_trichotomy a2.size 8 with h | h | h
  · have hp : ∀ w, Calls Try.prog 9 #[.string a2] w fun r w' => r = .returned (.tuple #[ins 0 0 0 0 0, .int .i64 10]) ∧ Below w.heap.size w w' := fun w => gr_below (decode_short a2 h w)
    rcases hc with q0 | ⟨q0, q1⟩ | ⟨q0, q1, q2⟩ | ⟨q0, q1, q2, q3⟩ | ⟨q0, q1, q2, q3, q4⟩ | ⟨q0, q1, q2, q3, q4⟩
    · exact core_n0 a0_0 a0_1 a0_2 a0_3 a0_4 a1_0 a1_1 a1_2 a1_3 a1_4 0 0 0 0 0 10 a2 (by omega) r0.1 r0.2 r1.1 r1.2 r2.1 r2.2 t0.1 t0.2 t1.1 t1.2 t2.1 t2.2 r3 r4 t3 t4 (by omega) rfl q0 hp w
    · exact core_n1 a0_0 a0_1 a0_2 a0_3 a0_4 a1_0 a1_1 a1_2 a1_3 a1_4 0 0 0 0 0 10 a2 (by omega) r0.1 r0.2 r1.1 r1.2 r2.1 r2.2 t0.1 t0.2 t1.1 t1.2 t2.1 t2.2 r3 r4 t3 t4 (by omega) rfl q0 q1 hp w
    · exact core_n2 a0_0 a0_1 a0_2 a0_3 a0_4 a1_0 a1_1 a1_2 a1_3 a1_4 0 0 0 0 0 10 a2 (by omega) r0.1 r0.2 r1.1 r1.2 r2.1 r2.2 t0.1 t0.2 t1.1 t1.2 t2.1 t2.2 r3 r4 t3 t4 (by omega) rfl q0 q1 q2 hp w
    · exact core_n3 a0_0 a0_1 a0_2 a0_3 a0_4 a1_0 a1_1 a1_2 a1_3 a1_4 0 0 0 0 0 10 a2 (by omega) r0.1 r0.2 r1.1 r1.2 r2.1 r2.2 t0.1 t0.2 t1.1 t1.2 t2.1 t2.2 r3 r4 t3 t4 (by omega) rfl q0 q1 q2 q3 hp w
    · exact core_n4 a0_0 a0_1 a0_2 a0_3 a0_4 a1_0 a1_1 a1_2 a1_3 a1_4 0 0 0 0 0 10 a2 (by omega) r0.1 r0.2 r1.1 r1.2 r2.1 r2.2 t0.1 t0.2 t1.1 t1.2 t2.1 t2.2 r3 r4 t3 t4 (by omega) rfl q0 q1 q2 q3 q4 hp w
    · exact core_n5 a0_0 a0_1 a0_2 a0_3 a0_4 a1_0 a1_1 a1_2 a1_3 a1_4 0 0 0 0 0 10 a2 (by omega) r0.1 r0.2 r1.1 r1.2 r2.1 r2.2 t0.1 t0.2 t1.1 t1.2 t2.1 t2.2 r3 r4 t3 t4 (by omega) rfl q0 q1 q2 q3 q4 hp w
  · have hp : ∀ w, Calls Try.prog 9 #[.string a2] w fun r w' => r = .returned (.tuple #[ins (bt a2 0) (bt a2 1 % 16) (bt a2 1 / 16) (offV a2) (immV a2), .int .i64 0]) ∧ Below w.heap.size w w' := fun w => gr_below (decode_8 a2 h w)
    have b0 := bt_nonneg a2 0; have b1 := bt_le a2 0; have b2 := bt_nonneg a2 1; have b3 := bt_le a2 1
    rcases hc with q0 | ⟨q0, q1⟩ | ⟨q0, q1, q2⟩ | ⟨q0, q1, q2, q3⟩ | ⟨q0, q1, q2, q3, q4⟩ | ⟨q0, q1, q2, q3, q4⟩
    · exact core_80 a0_0 a0_1 a0_2 a0_3 a0_4 a1_0 a1_1 a1_2 a1_3 a1_4 (bt a2 0) (bt a2 1 % 16) (bt a2 1 / 16) (offV a2) (immV a2) 0 a2 (by omega) r0.1 r0.2 r1.1 r1.2 r2.1 r2.2 t0.1 t0.2 t1.1 t1.2 t2.1 t2.2 r3 r4 t3 t4 h rfl (enc_dec a2 h) ⟨b0, b1⟩ (by omega) (by omega) q0 hp w
    · exact core_81 a0_0 a0_1 a0_2 a0_3 a0_4 a1_0 a1_1 a1_2 a1_3 a1_4 (bt a2 0) (bt a2 1 % 16) (bt a2 1 / 16) (offV a2) (immV a2) 0 a2 (by omega) r0.1 r0.2 r1.1 r1.2 r2.1 r2.2 t0.1 t0.2 t1.1 t1.2 t2.1 t2.2 r3 r4 t3 t4 h rfl (enc_dec a2 h) ⟨b0, b1⟩ (by omega) (by omega) q0 q1 hp w
    · exact core_82 a0_0 a0_1 a0_2 a0_3 a0_4 a1_0 a1_1 a1_2 a1_3 a1_4 (bt a2 0) (bt a2 1 % 16) (bt a2 1 / 16) (offV a2) (immV a2) 0 a2 (by omega) r0.1 r0.2 r1.1 r1.2 r2.1 r2.2 t0.1 t0.2 t1.1 t1.2 t2.1 t2.2 r3 r4 t3 t4 h rfl (enc_dec a2 h) ⟨b0, b1⟩ (by omega) (by omega) q0 q1 q2 hp w
    · exact core_83 a0_0 a0_1 a0_2 a0_3 a0_4 a1_0 a1_1 a1_2 a1_3 a1_4 (bt a2 0) (bt a2 1 % 16) (bt a2 1 / 16) (offV a2) (immV a2) 0 a2 (by omega) r0.1 r0.2 r1.1 r1.2 r2.1 r2.2 t0.1 t0.2 t1.1 t1.2 t2.1 t2.2 r3 r4 t3 t4 h rfl (enc_dec a2 h) ⟨b0, b1⟩ (by omega) (by omega) q0 q1 q2 q3 hp w
    · exact core_84 a0_0 a0_1 a0_2 a0_3 a0_4 a1_0 a1_1 a1_2 a1_3 a1_4 (bt a2 0) (bt a2 1 % 16) (bt a2 1 / 16) (offV a2) (immV a2) 0 a2 (by omega) r0.1 r0.2 r1.1 r1.2 r2.1 r2.2 t0.1 t0.2 t1.1 t1.2 t2.1 t2.2 r3 r4 t3 t4 h rfl (enc_dec a2 h) ⟨b0, b1⟩ (by omega) (by omega) q0 q1 q2 q3 q4 hp w
    · exact core_85 a0_0 a0_1 a0_2 a0_3 a0_4 a1_0 a1_1 a1_2 a1_3 a1_4 (bt a2 0) (bt a2 1 % 16) (bt a2 1 / 16) (offV a2) (immV a2) 0 a2 (by omega) r0.1 r0.2 r1.1 r1.2 r2.1 r2.2 t0.1 t0.2 t1.1 t1.2 t2.1 t2.2 r3 r4 t3 t4 h rfl (enc_dec a2 h) ⟨b0, b1⟩ (by omega) (by omega) q0 q1 q2 q3 q4 hp w
  · have hp : ∀ w, Calls Try.prog 9 #[.string a2] w fun r w' => r = .returned (.tuple #[ins 0 0 0 0 0, .int .i64 4]) ∧ Below w.heap.size w w' := fun w => gr_below (decode_long a2 h w)
    rcases hc with q0 | ⟨q0, q1⟩ | ⟨q0, q1, q2⟩ | ⟨q0, q1, q2, q3⟩ | ⟨q0, q1, q2, q3, q4⟩ | ⟨q0, q1, q2, q3, q4⟩
    · exact core_n0 a0_0 a0_1 a0_2 a0_3 a0_4 a1_0 a1_1 a1_2 a1_3 a1_4 0 0 0 0 0 4 a2 (by omega) r0.1 r0.2 r1.1 r1.2 r2.1 r2.2 t0.1 t0.2 t1.1 t1.2 t2.1 t2.2 r3 r4 t3 t4 (by omega) rfl q0 hp w
    · exact core_n1 a0_0 a0_1 a0_2 a0_3 a0_4 a1_0 a1_1 a1_2 a1_3 a1_4 0 0 0 0 0 4 a2 (by omega) r0.1 r0.2 r1.1 r1.2 r2.1 r2.2 t0.1 t0.2 t1.1 t1.2 t2.1 t2.2 r3 r4 t3 t4 (by omega) rfl q0 q1 hp w
    · exact core_n2 a0_0 a0_1 a0_2 a0_3 a0_4 a1_0 a1_1 a1_2 a1_3 a1_4 0 0 0 0 0 4 a2 (by omega) r0.1 r0.2 r1.1 r1.2 r2.1 r2.2 t0.1 t0.2 t1.1 t1.2 t2.1 t2.2 r3 r4 t3 t4 (by omega) rfl q0 q1 q2 hp w
    · exact core_n3 a0_0 a0_1 a0_2 a0_3 a0_4 a1_0 a1_1 a1_2 a1_3 a1_4 0 0 0 0 0 4 a2 (by omega) r0.1 r0.2 r1.1 r1.2 r2.1 r2.2 t0.1 t0.2 t1.1 t1.2 t2.1 t2.2 r3 r4 t3 t4 (by omega) rfl q0 q1 q2 q3 hp w
    · exact core_n4 a0_0 a0_1 a0_2 a0_3 a0_4 a1_0 a1_1 a1_2 a1_3 a1_4 0 0 0 0 0 4 a2 (by omega) r0.1 r0.2 r1.1 r1.2 r2.1 r2.2 t0.1 t0.2 t1.1 t1.2 t2.1 t2.2 r3 r4 t3 t4 (by omega) rfl q0 q1 q2 q3 q4 hp w
    · exact core_n5 a0_0 a0_1 a0_2 a0_3 a0_4 a1_0 a1_1 a1_2 a1_3 a1_4 0 0 0 0 0 4 a2 (by omega) r0.1 r0.2 r1.1 r1.2 r2.1 r2.2 t0.1 t0.2 t1.1 t1.2 t2.1 t2.2 r3 r4 t3 t4 (by omega) rfl q0 q1 q2 q3 q4 hp w

set_option maxRecDepth 100000 in
theorem lifted (os : Os) (started : os.Started) (H : Type) (enc : TypeId × Value → H) :
    ReturnsInHanded {} Try.checked os 5 .any (Rows.insnBackSpec.pre6 enc Try.prog Try.f5 Rows.insnBackRow.domain false) (Rows.insnBackSpec.post enc Try.prog Try.f5 false true false false) := by
  refine returnsInHanded_of_change (C := Try.checked) own started (by kernel_rfl) Try.func5
    (ChangeSpec.witness6 (enc := enc) (C := Try.checked) false ⟨#[], #[.agg #[.int .u8 0, .int .u8 0, .int .u8 0, .int .i16 0, .int .i32 0], .agg #[.int .u8 0, .int .u8 0, .int .u8 0, .int .i16 0, .int .i32 0], .string ByteArray.empty], []⟩ 8 (by kernel_rfl) (by kernel_rfl) (by kernel_rfl) (by kernel_rfl)) ?_
  intro W base args ds gs before hval0 hW hcnd _
  have hval : ∀ (j : Nat) t v, Try.f5.params[j]? = some t → args[j]? = some v → Value.okWide Try.prog W .any base t v := hval0
  have hW' := hW
  obtain ⟨p, q, hA0, hV, rfl, hfz, hnd⟩ := hW
  have hA : DataW.TrodAll enc Try.prog W 0 (fun _ => true) true Try.f5.params.toList args.toList ds p := hA0
  rw [Try.params5] at hA hval
  obtain ⟨v0, vs0, d0, ds0, p0, q0, hargs, rfl, rfl, h0, r0⟩ := trodAll_cons hA
  obtain ⟨v1, vs1, d1, ds1, p1, q1, rfl, rfl, rfl, h1, r1⟩ := trodAll_cons r0
  obtain ⟨v2, vs2, d2, ds2, p2, q2, rfl, rfl, rfl, h2, r2⟩ := trodAll_cons r1
  obtain ⟨rfl, rfl, rfl⟩ := trodAll_nil r2
  obtain rfl : args = #[v0, v1, v2] := by cases args; simp_all
  obtain ⟨rfl, rfl⟩ := trodVars_none hV
  obtain ⟨a0_0, a0_1, a0_2, a0_3, a0_4, rfl, rfl, rfl, w0_0, w0_1, w0_2, w0_3, w0_4⟩ := open_insn (hval 0 24 v0 rfl rfl) h0
  obtain ⟨a1_0, a1_1, a1_2, a1_3, a1_4, rfl, rfl, rfl, w1_0, w1_1, w1_2, w1_3, w1_4⟩ := open_insn (hval 1 24 v1 rfl rfl) h1
  obtain ⟨a2, rfl, rfl, rfl, w2⟩ := open_string Try.underlying9 (hval 2 9 v2 rfl rfl) h2
  clear hA0 hval0
  simp only [List.append_nil] at hW'
  refine (walk a0_0 a0_1 a0_2 a0_3 a0_4 a1_0 a1_1 a1_2 a1_3 a1_4 a2 w0_0 w0_1 w0_2 w0_3 w0_4 w1_0 w1_1 w1_2 w1_3 w1_4 w2 W).mono fun e W' ⟨he, hg⟩ => ?_
  subst he
  exact ⟨_, rfl, post_nil hW' (fun _ _ _ => (trodAll_cons_mk (shut_bool Try.underlying4 _) trodAll_mk0)) (fun sp => (trodAll_cons_mk (shut_insn w0_0 w0_1 w0_2 w0_3 w0_4) (trodAll_cons_mk (shut_insn w1_0 w1_1 w1_2 w1_3 w1_4) (trodAll_cons_mk (shut_string Try.underlying9 w2) trodAll_mk0)))) (fun _ => rfl)
    hg (ok_one (by kernel_rfl) rfl (okWide_bool_mk Try.underlying4 _))⟩

theorem over : Rows.insnBackRow.holds Try.pinned (OpenSpec.ofChange Rows.insnBackSpec) :=
  OpenClaim.holds_of_wide 5 Try.f5 rfl rfl rfl rfl rfl rfl rfl ⟨rfl, rfl, rfl, rfl, rfl⟩ rfl rfl rfl rfl rfl (by kernel_rfl) Try.func5 (by kernel_rfl)
    (of_decide_eq_true (by kernel_rfl)) (by unfold Func.isWrapper; first | (rw [if_pos (by decide +kernel)]; kernel_rfl) | (rw [if_neg (by decide +kernel)]; exact ⟨rfl, rfl⟩))
    (fun os started H enc _ => lifted os started H enc)

theorem proved : Rows.InsnBackSaid :=
  over
end Go.Proofs.Ythbmgfnifolcbaa.insnBack
namespace Go.Proofs.Ythbmgfnifolcbaa
theorem insnBack_holds : Rows.InsnBackSaid :=
  insnBack.proved
#print axioms insnBack_holds
end Go.Proofs.Ythbmgfnifolcbaa
