/- What is proved: InsnTells: an instruction is written and read as the document says, and its kind, code, size and width are those that the document gives; for any instruction, any text. No condition. -/
import Derived.Test.YthbmgfnifolcbaaIN
import Derived.WalkKit
import Derived.ProofKit
import Derived.OpenShut
import Derived.ShutString
namespace Go.Proofs.Ythbmgfnifolcbaa.insnTells
open Go.ChangeShapes Go.WideShapes Go.ChangeAt Go.RowKit
open Go.ChangeMaps (open_string shut_string)
set_option linter.unusedVariables false

theorem own : ownKnob Try.prog.godebug = none := by kernel_rfl

theorem decode_both (s : ByteArray) : ∃ o d x f i e, (∀ w, Calls Try.prog 9 #[.string s] w fun r w' => r = .returned (.tuple #[ins o d x f i, .int .i64 e]) ∧ Below w.heap.size w w') ∧ (∀ w, Calls Try.prog 10 #[.string s] w fun r w' => r = .returned (.tuple #[ins o d x f i, .int .i64 e]) ∧ Below w.heap.size w w') := by
  rcases Nat.lt_trichotomy s.size 8 with h | h | h
  · exact ⟨_, _, _, _, _, _, fun w => gr_below (decode_short s h w), fun w => gr_below (rdecode_short s h w)⟩
  · exact ⟨_, _, _, _, _, _, fun w => gr_below (decode_8 s h w), fun w => gr_below (rdecode_8 s h w)⟩
  · exact ⟨_, _, _, _, _, _, fun w => gr_below (decode_long s h w), fun w => gr_below (rdecode_long s h w)⟩

set_option maxRecDepth 100000 in
set_option maxHeartbeats 16000000 in
theorem walk (a0_0 a0_1 a0_2 a0_3 a0_4 : Int) (a1 : ByteArray) (w0_0 : (Lit.int .u8 a0_0).wf = true) (w0_1 : (Lit.int .u8 a0_1).wf = true) (w0_2 : (Lit.int .u8 a0_2).wf = true) (w0_3 : (Lit.int .i16 a0_3).wf = true) (w0_4 : (Lit.int .i32 a0_4).wf = true) (w1 : a1.size ≤ maxLen) (w : World) :
    Calls Try.prog 3 #[ins a0_0 a0_1 a0_2 a0_3 a0_4, .string a1] w fun e w' => e = .returned (.bool true) ∧ Below w.heap.size w w' := by
  obtain ⟨h0, h1⟩ := bd_u8 w0_0
  obtain ⟨d0, d1⟩ := bd_u8 w0_1
  obtain ⟨s0, s1⟩ := bd_u8 w0_2
  by_cases hl : 4096 < a1.size
  · have hd : decide (4096 < (a1.size : Int)) = true := by simp; omega
    go_enter Try.func3, Try.ntmps3
    go_wp2_with (first | (go_at_call 8; refine (alive_any _).mono ?_; rintro e w' ⟨rfl, hb⟩))
    go_returns
    exact ⟨rfl, ((Below.refl _ w).alloc (Nat.le_refl _) _).trans (hb.mono (by simp))⟩
  have hd : decide (4096 < (a1.size : Int)) = false := by simp; omega
  obtain ⟨o, d, x, f, i, e, hp, hq⟩ := decode_both a1
  clear hl
  go_enter Try.func3, Try.ntmps3
  go_upto_region 3 with fail
  have HG : Below w.heap.size w (w.alloc (Obj.cells #[.int .u8 a0_0, .int .u8 a0_1, .int .u8 a0_2, .int .i16 a0_3, .int .i32 a0_4] 24)) := (Below.refl _ w).alloc (Nat.le_refl _) _
  have HB := At5.new w a0_0 a0_1 a0_2 a0_3 a0_4
  generalize (w.alloc (Obj.cells #[.int .u8 a0_0, .int .u8 a0_1, .int .u8 a0_2, .int .i16 a0_3, .int .i32 a0_4] 24)) = W at HG HB ⊢
  generalize hBs : w.heap.size = B at HB ⊢
  go_upto_region 4 with (first | (go_at_call 9; refine (hp _).mono ?_; rintro r w1 ⟨rfl, hb⟩))
  replace HG : Below w.heap.size w (w1.alloc (Obj.cells #[.int .u8 o, .int .u8 d, .int .u8 x, .int .i16 f, .int .i32 i] 24)) := (HG.trans (hb.mono HG.size)).alloc (Nat.le_trans HG.size hb.size) _
  replace HB := (HB.below hb).below ((Below.refl _ w1).alloc (Nat.le_refl _) (Obj.cells #[.int .u8 o, .int .u8 d, .int .u8 x, .int .i16 f, .int .i32 i] 24))
  have HA := At5.new w1 o d x f i
  clear hb
  generalize w1.alloc (Obj.cells #[.int .u8 o, .int .u8 d, .int .u8 x, .int .i16 f, .int .i32 i] 24) = W1 at HG HB HA ⊢
  generalize w1.heap.size = A1 at HA ⊢
  go_upto_region 5 with (first | (go_at_call 10; refine (hq _).mono ?_; rintro r w2 ⟨rfl, hb⟩))
  replace HG : Below w.heap.size w (w2.alloc (Obj.cells #[.int .u8 o, .int .u8 d, .int .u8 x, .int .i16 f, .int .i32 i] 24)) := (HG.trans (hb.mono HG.size)).alloc (Nat.le_trans HG.size hb.size) _
  replace HB := (HB.below hb).below ((Below.refl _ w2).alloc (Nat.le_refl _) (Obj.cells #[.int .u8 o, .int .u8 d, .int .u8 x, .int .i16 f, .int .i32 i] 24))
  replace HA := (HA.below hb).below ((Below.refl _ w2).alloc (Nat.le_refl _) (Obj.cells #[.int .u8 o, .int .u8 d, .int .u8 x, .int .i16 f, .int .i32 i] 24))
  have HC := At5.new w2 o d x f i
  clear hb
  generalize w2.alloc (Obj.cells #[.int .u8 o, .int .u8 d, .int .u8 x, .int .i16 f, .int .i32 i] 24) = W2 at HG HB HA HC ⊢
  generalize w2.heap.size = A2 at HC ⊢
  have hne : Nonempty (GbBy W2) := ⟨⟨W2, Below.refl _ _⟩⟩
  have hbx0 := fun p => (HB.allb p).1
  have hbx1 := fun p => (HB.allb p).2.1
  have hbx2 := fun p => (HB.allb p).2.2.1
  have hbx3 := fun p => (HB.allb p).2.2.2.1
  have hbx4 := fun p => (HB.allb p).2.2.2.2
  have hax0 := fun p => (HA.allb p).1
  have hax1 := fun p => (HA.allb p).2.1
  have hax2 := fun p => (HA.allb p).2.2.1
  have hax3 := fun p => (HA.allb p).2.2.2.1
  have hax4 := fun p => (HA.allb p).2.2.2.2
  have hcx0 := fun p => (HC.allb p).1
  have hcx1 := fun p => (HC.allb p).2.1
  have hcx2 := fun p => (HC.allb p).2.2.1
  have hcx3 := fun p => (HC.allb p).2.2.2.1
  have hcx4 := fun p => (HC.allb p).2.2.2.2
  refine wp_region_gb (by kernel_rfl) (by kernel_rfl) ?_
  try simp only [List.append_eq, List.cons_append, List.nil_append]
  repeat (first
    | go_big_quiet_skip
    | (go_big_quiet_want; go_big_quiet_op; first
      | go_big_quiet_on
      | (apply Exists.intro
         refine ⟨fun p => ?_, ?_⟩
         · first
           | (go_at_call 11; exact calls_gb (gr_below (encode_any _ _ _ _ _ h0 h1 d0 d1 s0 s1 _)))
           | (go_at_call 12; exact calls_gb (rencode_any _ _ _ _ _ h0 h1 d0 d1 s0 s1 _))
           | (go_at_call 13; exact calls_gb (gr_below (kind_any _ _ _ _ _ h0 h1 d0 d1 s0 s1 _)))
           | (go_at_call 14; exact calls_gb (gr_below (rkind_any _ _ _ _ _ h0 h1 d0 d1 s0 s1 _)))
           | (go_at_call 15; exact calls_gb (gr_below (ex_gr (code_any _ _ _ _ _ h0 h1 _))))
           | (go_at_call 16; exact calls_gb (gr_below (ex_gr (rcode_any _ _ _ _ _ h0 h1 _))))
           | (go_at_call 17; exact calls_gb (gr_below (isize_any _ _ _ _ _ h0 h1 d0 d1 s0 s1 _)))
           | (go_at_call 18; exact calls_gb (gr_below (irsize_any _ _ _ _ _ h0 h1 d0 d1 s0 s1 _)))
           | (go_at_call 19; exact calls_gb (gr_below (wide_any _ _ _ _ _ h0 h1 d0 d1 s0 s1 _)))
           | (go_at_call 20; exact calls_gb (gr_below (rwide_any _ _ _ _ _ h0 h1 d0 d1 s0 s1 _)))
           | (go_at_call 8; exact calls_gb (alive_any _))
         go_big_quiet_on)))
  refine wpQuiet_nil ?_
  intro _ hw'
  obtain ⟨⟨wq, hq⟩, rfl⟩ := hw'
  go_wp2
  go_returns
  exact ⟨rfl, HG.trans (hq.mono HG.size)⟩

set_option maxRecDepth 100000 in
theorem lifted (os : Os) (started : os.Started) (H : Type) (enc : TypeId × Value → H) :
    ReturnsInHanded {} Try.checked os 3 .any (Rows.insnTellsSpec.pre6 enc Try.prog Try.f3 Rows.insnTellsRow.domain false) (Rows.insnTellsSpec.post enc Try.prog Try.f3 false true false false) := by
  refine returnsInHanded_of_change (C := Try.checked) own started (by kernel_rfl) Try.func3
    (ChangeSpec.witness6 (enc := enc) (C := Try.checked) false ⟨#[], #[.agg #[.int .u8 0, .int .u8 0, .int .u8 0, .int .i16 0, .int .i32 0], .string ByteArray.empty], []⟩ 8 (by kernel_rfl) (by kernel_rfl) (by kernel_rfl) (by kernel_rfl)) ?_
  intro W base args ds gs before hval0 hW hcnd _
  have hval : ∀ (j : Nat) t v, Try.f3.params[j]? = some t → args[j]? = some v → Value.okWide Try.prog W .any base t v := hval0
  have hW' := hW
  obtain ⟨p, q, hA0, hV, rfl, hfz, hnd⟩ := hW
  have hA : DataW.TrodAll enc Try.prog W 0 (fun _ => true) true Try.f3.params.toList args.toList ds p := hA0
  rw [Try.params3] at hA hval
  obtain ⟨v0, vs0, d0, ds0, p0, q0, hargs, rfl, rfl, h0, r0⟩ := trodAll_cons hA
  obtain ⟨v1, vs1, d1, ds1, p1, q1, rfl, rfl, rfl, h1, r1⟩ := trodAll_cons r0
  obtain ⟨rfl, rfl, rfl⟩ := trodAll_nil r1
  obtain rfl : args = #[v0, v1] := by cases args; simp_all
  obtain ⟨rfl, rfl⟩ := trodVars_none hV
  obtain ⟨a0_0, a0_1, a0_2, a0_3, a0_4, rfl, rfl, rfl, w0_0, w0_1, w0_2, w0_3, w0_4⟩ := open_insn (hval 0 24 v0 rfl rfl) h0
  obtain ⟨a1, rfl, rfl, rfl, w1⟩ := open_string Try.underlying9 (hval 1 9 v1 rfl rfl) h1
  clear hA0 hval0
  simp only [List.append_nil] at hW'
  refine (walk a0_0 a0_1 a0_2 a0_3 a0_4 a1 w0_0 w0_1 w0_2 w0_3 w0_4 w1 W).mono fun e W' ⟨he, hg⟩ => ?_
  subst he
  exact ⟨_, rfl, post_nil hW' (fun _ _ _ => (trodAll_cons_mk (shut_bool Try.underlying4 _) trodAll_mk0)) (fun sp => (trodAll_cons_mk (shut_insn w0_0 w0_1 w0_2 w0_3 w0_4) (trodAll_cons_mk (shut_string Try.underlying9 w1) trodAll_mk0))) (fun _ => rfl)
    hg (ok_one (by kernel_rfl) rfl (okWide_bool_mk Try.underlying4 _))⟩

theorem over : Rows.insnTellsRow.holds Try.pinned (OpenSpec.ofChange Rows.insnTellsSpec) :=
  OpenClaim.holds_of_wide 3 Try.f3 rfl rfl rfl rfl rfl rfl rfl ⟨rfl, rfl, rfl, rfl, rfl⟩ rfl rfl rfl rfl rfl (by kernel_rfl) Try.func3 (by kernel_rfl)
    (of_decide_eq_true (by kernel_rfl)) (by unfold Func.isWrapper; first | (rw [if_pos (by decide +kernel)]; kernel_rfl) | (rw [if_neg (by decide +kernel)]; exact ⟨rfl, rfl⟩))
    (fun os started H enc _ => lifted os started H enc)

theorem proved : Rows.InsnTellsSaid :=
  over
end Go.Proofs.Ythbmgfnifolcbaa.insnTells
namespace Go.Proofs.Ythbmgfnifolcbaa
theorem insnTells_holds : Rows.InsnTellsSaid :=
  insnTells.proved
#print axioms insnTells_holds
end Go.Proofs.Ythbmgfnifolcbaa
