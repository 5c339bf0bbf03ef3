/- What is proved: InsnTouches: which registers an instruction reads, and which one it writes, are those that the document gives; for any instruction. No condition. -/
import Derived.Test.YthbmgfnifolcbaaTC
import Derived.WalkKit
import Derived.ProofKit
import Derived.OpenShut
import Derived.ShutString
namespace Go.Proofs.Ythbmgfnifolcbaa.insnTouches
open Go.ChangeShapes Go.WideShapes Go.ChangeAt Go.RowKit
open Go.ChangeMaps (open_string shut_string)
set_option linter.unusedVariables false

theorem own : ownKnob Try.prog.godebug = none := by kernel_rfl

set_option maxRecDepth 100000 in
set_option maxHeartbeats 16000000 in
theorem walk (a0_0 a0_1 a0_2 a0_3 a0_4 : Int) (w0_0 : (Lit.int .u8 a0_0).wf = true) (w0_1 : (Lit.int .u8 a0_1).wf = true) (w0_2 : (Lit.int .u8 a0_2).wf = true) (w0_3 : (Lit.int .i16 a0_3).wf = true) (w0_4 : (Lit.int .i32 a0_4).wf = true) (w : World) :
    Calls Try.prog 4 #[ins a0_0 a0_1 a0_2 a0_3 a0_4] w fun e w' => e = .returned (.bool true) ∧ Below w.heap.size w w' := by
  obtain ⟨h0, h1⟩ := bd_u8 w0_0
  obtain ⟨d0, d1⟩ := bd_u8 w0_1
  obtain ⟨s0, s1⟩ := bd_u8 w0_2
  go_enter Try.func4, Try.ntmps4
  go_upto_region 1 with fail
  have HG : Below w.heap.size w (w.alloc (Obj.cells #[.int .u8 a0_0, .int .u8 a0_1, .int .u8 a0_2, .int .i16 a0_3, .int .i32 a0_4] 24)) := (Below.refl _ w).alloc (Nat.le_refl _) _
  have HB := At5.new w a0_0 a0_1 a0_2 a0_3 a0_4
  generalize (w.alloc (Obj.cells #[.int .u8 a0_0, .int .u8 a0_1, .int .u8 a0_2, .int .i16 a0_3, .int .i32 a0_4] 24)) = W at HG HB ⊢
  generalize hBs : w.heap.size = B at HB ⊢
  obtain ⟨c0, c1, c2, c3, c4⟩ := HB.cells
  go_upto_region 3 with (first | (go_at_call 21; refine (writes_any _ _ _ _ _ h0 h1 d0 d1 s0 s1 _).mono ?_; rintro r w1 ⟨rfl, hg⟩; replace HB := HB.gr hg; replace HG := HG.trans (hg.below.mono HG.size); clear hg; obtain ⟨c0, c1, c2, c3, c4⟩ := HB.cells) | (go_at_call 22; refine (rwrites_any _ _ _ _ _ h0 h1 d0 d1 s0 s1 _).mono ?_; rintro r w1 ⟨rfl, hg⟩; replace HB := HB.gr hg; replace HG := HG.trans (hg.below.mono HG.size); clear hg; obtain ⟨c0, c1, c2, c3, c4⟩ := HB.cells))
  refine tc B _ _ _ _ _ (wrV (kV a0_0 a0_1 a0_2 a0_3 a0_4) a0_1) (wrB (kV a0_0 a0_1 a0_2 a0_3 a0_4)) h0 h1 d0 d1 s0 s1 _ HB _ _ rfl rfl rfl rfl rfl rfl rfl ?_
  rintro ⟨tm, df⟩ w2 v2 hsz hdf h2 hv2 hb2
  cases hdf
  cases hv2
  go_wp2
  refine bodyPost_ret (by simp [results, Try.results4, go_sem, h2]; rfl) rfl ?_
  rw [← hBs]
  exact ⟨rfl, HG.trans (hb2.mono HG.size)⟩

set_option maxRecDepth 100000 in
theorem lifted (os : Os) (started : os.Started) (H : Type) (enc : TypeId × Value → H) :
    ReturnsInHanded {} Try.checked os 4 .any (Rows.insnTouchesSpec.pre6 enc Try.prog Try.f4 Rows.insnTouchesRow.domain false) (Rows.insnTouchesSpec.post enc Try.prog Try.f4 false true false false) := by
  refine returnsInHanded_of_change (C := Try.checked) own started (by kernel_rfl) Try.func4
    (ChangeSpec.witness6 (enc := enc) (C := Try.checked) false ⟨#[], #[.agg #[.int .u8 0, .int .u8 0, .int .u8 0, .int .i16 0, .int .i32 0]], []⟩ 8 (by kernel_rfl) (by kernel_rfl) (by kernel_rfl) (by kernel_rfl)) ?_
  intro W base args ds gs before hval0 hW hcnd _
  have hval : ∀ (j : Nat) t v, Try.f4.params[j]? = some t → args[j]? = some v → Value.okWide Try.prog W .any base t v := hval0
  have hW' := hW
  obtain ⟨p, q, hA0, hV, rfl, hfz, hnd⟩ := hW
  have hA : DataW.TrodAll enc Try.prog W 0 (fun _ => true) true Try.f4.params.toList args.toList ds p := hA0
  rw [Try.params4] at hA hval
  obtain ⟨v0, vs0, d0, ds0, p0, q0, hargs, rfl, rfl, h0, r0⟩ := trodAll_cons hA
  obtain ⟨rfl, rfl, rfl⟩ := trodAll_nil r0
  obtain rfl : args = #[v0] := by cases args; simp_all
  obtain ⟨rfl, rfl⟩ := trodVars_none hV
  obtain ⟨a0_0, a0_1, a0_2, a0_3, a0_4, rfl, rfl, rfl, w0_0, w0_1, w0_2, w0_3, w0_4⟩ := open_insn (hval 0 24 v0 rfl rfl) h0
  clear hA0 hval0
  simp only [List.append_nil] at hW'
  refine (walk a0_0 a0_1 a0_2 a0_3 a0_4 w0_0 w0_1 w0_2 w0_3 w0_4 W).mono fun e W' ⟨he, hg⟩ => ?_
  subst he
  exact ⟨_, rfl, post_nil hW' (fun _ _ _ => (trodAll_cons_mk (shut_bool Try.underlying4 _) trodAll_mk0)) (fun sp => (trodAll_cons_mk (shut_insn w0_0 w0_1 w0_2 w0_3 w0_4) trodAll_mk0)) (fun _ => rfl)
    hg (ok_one (by kernel_rfl) rfl (okWide_bool_mk Try.underlying4 _))⟩

theorem over : Rows.insnTouchesRow.holds Try.pinned (OpenSpec.ofChange Rows.insnTouchesSpec) :=
  OpenClaim.holds_of_wide 4 Try.f4 rfl rfl rfl rfl rfl rfl rfl ⟨rfl, rfl, rfl, rfl, rfl⟩ rfl rfl rfl rfl rfl (by kernel_rfl) Try.func4 (by kernel_rfl)
    (of_decide_eq_true (by kernel_rfl)) (by unfold Func.isWrapper; first | (rw [if_pos (by decide +kernel)]; kernel_rfl) | (rw [if_neg (by decide +kernel)]; exact ⟨rfl, rfl⟩))
    (fun os started H enc _ => lifted os started H enc)

theorem proved : Rows.InsnTouchesSaid :=
  over
end Go.Proofs.Ythbmgfnifolcbaa.insnTouches
namespace Go.Proofs.Ythbmgfnifolcbaa
theorem insnTouches_holds : Rows.InsnTouchesSaid :=
  insnTouches.proved
#print axioms insnTouches_holds
end Go.Proofs.Ythbmgfnifolcbaa
