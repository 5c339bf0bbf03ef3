/- What is proved: InsnStrict: an instruction with one field changed is of its kind just if that field is used, or is not there; for any instruction, any other fields. No condition. -/
import Derived.Test.YthbmgfnifolcbaaSW
import Derived.WalkKit
import Derived.ProofKit
import Derived.OpenShut
import Derived.ShutString
namespace Go.Proofs.Ythbmgfnifolcbaa.insnStrict
open Go.ChangeShapes Go.WideShapes Go.ChangeAt Go.RowKit
open Go.ChangeMaps (open_string shut_string)
set_option linter.unusedVariables false

theorem own : ownKnob Try.prog.godebug = none := by kernel_rfl

set_option maxRecDepth 100000 in
set_option maxHeartbeats 16000000 in
theorem walk (a0_0 a0_1 a0_2 a0_3 a0_4 : Int) (a1 : Int) (a2 : Int) (a3 : Int) (w0_0 : (Lit.int .u8 a0_0).wf = true) (w0_1 : (Lit.int .u8 a0_1).wf = true) (w0_2 : (Lit.int .u8 a0_2).wf = true) (w0_3 : (Lit.int .i16 a0_3).wf = true) (w0_4 : (Lit.int .i32 a0_4).wf = true) (w1 : (Lit.int .i16 a1).wf = true) (w2 : (Lit.int .i32 a2).wf = true) (w3 : (Lit.int .u8 a3).wf = true) (w : World) :
    Calls Try.prog 7 #[ins a0_0 a0_1 a0_2 a0_3 a0_4, .int .i16 a1, .int .i32 a2, .int .u8 a3] w fun e w' => e = .returned (.bool true) ∧ Below w.heap.size w w' := by
  obtain ⟨h0, h1⟩ := bd_u8 w0_0
  obtain ⟨d0, d1⟩ := bd_u8 w0_1
  obtain ⟨s0, s1⟩ := bd_u8 w0_2
  obtain ⟨r0, r1⟩ := bd_u8 w3
  by_cases hk : kV a0_0 a0_1 a0_2 a0_3 a0_4 = 0
  · go_enter Try.func7, Try.ntmps7
    go_upto_region 1 with fail
    have HG : Below w.heap.size w (w.alloc (Obj.cells #[.int .u8 a0_0, .int .u8 a0_1, .int .u8 a0_2, .int .i16 a0_3, .int .i32 a0_4] 24)) := (Below.refl _ w).alloc (Nat.le_refl _) _
    have HB := At5.new w a0_0 a0_1 a0_2 a0_3 a0_4
    generalize (w.alloc (Obj.cells #[.int .u8 a0_0, .int .u8 a0_1, .int .u8 a0_2, .int .i16 a0_3, .int .i32 a0_4] 24)) = W at HG HB ⊢
    generalize hBs : w.heap.size = B at HB ⊢
    obtain ⟨c0, c1, c2, c3, c4⟩ := HB.cells
    go_wp2_with (first | (go_at_call 13; refine (gr_below (kind_any _ _ _ _ _ h0 h1 d0 d1 s0 s1 _)).mono ?_; rw [hk]; rintro r w1 ⟨rfl, hb⟩; replace HG := HG.trans (hb.mono HG.size); clear hb) | (go_at_call 8; refine (alive_any _).mono ?_; rintro r w2 ⟨rfl, hb⟩; replace HG := HG.trans (hb.mono HG.size); clear hb))
    go_returns
    exact ⟨rfl, HG⟩
  rcases nm_cases a0_0 a0_2 with k | k | k | k | k | k | k | k | k | k | k
  all_goals (have hn := fun n (h : n ≠ 0) (e : kV a0_0 a0_1 a0_2 a0_3 a0_4 = n) => (kV_pos e h).2.2.1)
  all_goals (have hv : kV a0_0 a0_1 a0_2 a0_3 a0_4 = nmV a0_0 a0_2 := (hn _ hk rfl).symm)
  all_goals rw [k] at hv
  · exact absurd hv hk
  · cases hx : xB a0_0 with
    | true => exact strict_1x a0_0 a0_1 a0_2 a0_3 a0_4 a1 a2 a3 h0 h1 d0 d1 s0 s1 r0 r1 hv hx w
    | false =>
      by_cases hc : a0_0 / 16 = 8
      · exact strict_1g a0_0 a0_1 a0_2 a0_3 a0_4 a1 a2 a3 h0 h1 d0 d1 s0 s1 r0 r1 hv hx hc w
      · exact strict_1n a0_0 a0_1 a0_2 a0_3 a0_4 a1 a2 a3 h0 h1 d0 d1 s0 s1 r0 r1 hv hx hc w
  · exact strict_2 a0_0 a0_1 a0_2 a0_3 a0_4 a1 a2 a3 h0 h1 d0 d1 s0 s1 r0 r1 hv w
  · exact strict_3 a0_0 a0_1 a0_2 a0_3 a0_4 a1 a2 a3 h0 h1 d0 d1 s0 s1 r0 r1 hv w
  · exact strict_4 a0_0 a0_1 a0_2 a0_3 a0_4 a1 a2 a3 h0 h1 d0 d1 s0 s1 r0 r1 hv w
  · cases hx : xB a0_0 with
    | true => exact strict_5x a0_0 a0_1 a0_2 a0_3 a0_4 a1 a2 a3 h0 h1 d0 d1 s0 s1 r0 r1 hv hx w
    | false => exact strict_5n a0_0 a0_1 a0_2 a0_3 a0_4 a1 a2 a3 h0 h1 d0 d1 s0 s1 r0 r1 hv hx w
  · exact strict_6 a0_0 a0_1 a0_2 a0_3 a0_4 a1 a2 a3 h0 h1 d0 d1 s0 s1 r0 r1 hv w
  · exact strict_7 a0_0 a0_1 a0_2 a0_3 a0_4 a1 a2 a3 h0 h1 d0 d1 s0 s1 r0 r1 hv w
  · exact strict_8 a0_0 a0_1 a0_2 a0_3 a0_4 a1 a2 a3 h0 h1 d0 d1 s0 s1 r0 r1 hv w
  · exact strict_9 a0_0 a0_1 a0_2 a0_3 a0_4 a1 a2 a3 h0 h1 d0 d1 s0 s1 r0 r1 hv w
  · exact strict_10 a0_0 a0_1 a0_2 a0_3 a0_4 a1 a2 a3 h0 h1 d0 d1 s0 s1 r0 r1 hv w

set_option maxRecDepth 100000 in
theorem lifted (os : Os) (started : os.Started) (H : Type) (enc : TypeId × Value → H) :
    ReturnsInHanded {} Try.checked os 7 .any (Rows.insnStrictSpec.pre6 enc Try.prog Try.f7 Rows.insnStrictRow.domain false) (Rows.insnStrictSpec.post enc Try.prog Try.f7 false true false false) := by
  refine returnsInHanded_of_change (C := Try.checked) own started (by kernel_rfl) Try.func7
    (ChangeSpec.witness6 (enc := enc) (C := Try.checked) false ⟨#[], #[.agg #[.int .u8 0, .int .u8 0, .int .u8 0, .int .i16 0, .int .i32 0], .int .i16 0, .int .i32 0, .int .u8 0], []⟩ 8 (by kernel_rfl) (by kernel_rfl) (by kernel_rfl) (by kernel_rfl)) ?_
  intro W base args ds gs before hval0 hW hcnd _
  have hval : ∀ (j : Nat) t v, Try.f7.params[j]? = some t → args[j]? = some v → Value.okWide Try.prog W .any base t v := hval0
  have hW' := hW
  obtain ⟨p, q, hA0, hV, rfl, hfz, hnd⟩ := hW
  have hA : DataW.TrodAll enc Try.prog W 0 (fun _ => true) true Try.f7.params.toList args.toList ds p := hA0
  rw [Try.params7] at hA hval
  obtain ⟨v0, vs0, d0, ds0, p0, q0, hargs, rfl, rfl, h0, r0⟩ := trodAll_cons hA
  obtain ⟨v1, vs1, d1, ds1, p1, q1, rfl, rfl, rfl, h1, r1⟩ := trodAll_cons r0
  obtain ⟨v2, vs2, d2, ds2, p2, q2, rfl, rfl, rfl, h2, r2⟩ := trodAll_cons r1
  obtain ⟨v3, vs3, d3, ds3, p3, q3, rfl, rfl, rfl, h3, r3⟩ := trodAll_cons r2
  obtain ⟨rfl, rfl, rfl⟩ := trodAll_nil r3
  obtain rfl : args = #[v0, v1, v2, v3] := by cases args; simp_all
  obtain ⟨rfl, rfl⟩ := trodVars_none hV
  obtain ⟨a0_0, a0_1, a0_2, a0_3, a0_4, rfl, rfl, rfl, w0_0, w0_1, w0_2, w0_3, w0_4⟩ := open_insn (hval 0 24 v0 rfl rfl) h0
  obtain ⟨a1, rfl, rfl, rfl, w1⟩ := open_int Try.underlying22 (hval 1 22 v1 rfl rfl) h1
  obtain ⟨a2, rfl, rfl, rfl, w2⟩ := open_int Try.underlying21 (hval 2 21 v2 rfl rfl) h2
  obtain ⟨a3, rfl, rfl, rfl, w3⟩ := open_int Try.underlying5 (hval 3 5 v3 rfl rfl) h3
  clear hA0 hval0
  simp only [List.append_nil] at hW'
  refine (walk a0_0 a0_1 a0_2 a0_3 a0_4 a1 a2 a3 w0_0 w0_1 w0_2 w0_3 w0_4 w1 w2 w3 W).mono fun e W' ⟨he, hg⟩ => ?_
  subst he
  exact ⟨_, rfl, post_nil hW' (fun _ _ _ => (trodAll_cons_mk (shut_bool Try.underlying4 _) trodAll_mk0)) (fun sp => (trodAll_cons_mk (shut_insn w0_0 w0_1 w0_2 w0_3 w0_4) (trodAll_cons_mk (shut_int Try.underlying22 w1) (trodAll_cons_mk (shut_int Try.underlying21 w2) (trodAll_cons_mk (shut_int Try.underlying5 w3) trodAll_mk0))))) (fun _ => rfl)
    hg (ok_one (by kernel_rfl) rfl (okWide_bool_mk Try.underlying4 _))⟩

theorem over : Rows.insnStrictRow.holds Try.pinned (OpenSpec.ofChange Rows.insnStrictSpec) :=
  OpenClaim.holds_of_wide 7 Try.f7 rfl rfl rfl rfl rfl rfl rfl ⟨rfl, rfl, rfl, rfl, rfl⟩ rfl rfl rfl rfl rfl (by kernel_rfl) Try.func7 (by kernel_rfl)
    (of_decide_eq_true (by kernel_rfl)) (by unfold Func.isWrapper; first | (rw [if_pos (by decide +kernel)]; kernel_rfl) | (rw [if_neg (by decide +kernel)]; exact ⟨rfl, rfl⟩))
    (fun os started H enc _ => lifted os started H enc)

theorem proved : Rows.InsnStrictSaid :=
  over
end Go.Proofs.Ythbmgfnifolcbaa.insnStrict
namespace Go.Proofs.Ythbmgfnifolcbaa
theorem insnStrict_holds : Rows.InsnStrictSaid :=
  insnStrict.proved
#print axioms insnStrict_holds
end Go.Proofs.Ythbmgfnifolcbaa
