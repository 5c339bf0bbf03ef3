/- Towards the statements of package tnum (layer 3): the document's examples come out as it says. -/
import Derived.Test.YtkfjjpdcbdbdiaaTCalls
namespace Go.Proofs.Ytkfjjpdcbdbdiaa
open Go.ChangeShapes Go.WideShapes Go.ChangeAt Go.RowKit
set_option linter.unusedVariables false
set_option maxRecDepth 20000

set_option maxHeartbeats 2000000 in
theorem works_any (w : World) : Calls Try.prog 19 #[] w fun e w' => e = .returned (.bool true) ∧ Gr w w' := by
  go_enter Try.func19, Try.ntmps19
  go_wp2_with (first
    | (go_at_call_of 9 (Value.int IntKind.u64 2); refine (of_1_2 _).mono ?_; rintro e w1 ⟨rfl, g1⟩)
    | (go_at_call_of 9 (Value.int IntKind.u64 0); refine (of_1_0 _).mono ?_; rintro e w2 ⟨rfl, g2⟩)
    | (go_at_call 12; refine (w_add _).mono ?_; rintro e w3 ⟨rfl, g3⟩)
    | (go_at_call 59; refine (w_range _).mono ?_; rintro e w4 ⟨rfl, g4⟩))
  have HA : Hid (At w4 w3.heap.size 0#64 6#64) := (At.new w3 0#64 6#64).gr g4
  have HB : Hid (At (w4.alloc (.cells #[.int .u64 4, .int .u64 3] 24)) w4.heap.size 4#64 3#64) := At.new w4 4#64 3#64
  have HA' : Hid (At (w4.alloc (.cells #[.int .u64 4, .int .u64 3] 24)) w3.heap.size 0#64 6#64) := HA.out.alloc _
  have HG : Hid (Gr w (w4.alloc (.cells #[.int .u64 4, .int .u64 3] 24))) := (((g1.trans (g2.trans g3)).alloc _ _).trans g4).alloc _ _
  clear HA g1 g2 g3 g4
  revert HB HA' HG
  generalize w4.alloc (.cells #[.int .u64 4, .int .u64 3] 24) = W
  intro HB HA' HG
  have hne : Nonempty (GrBy W) := ⟨⟨W, Gr.refl W⟩⟩
  have a0 : ∀ p : GrBy W, p.to.cell? ⟨w3.heap.size, 0, none⟩ = some (.int .u64 0) := fun p => (HA'.out.gr p.gr).c0
  have a1 : ∀ p : GrBy W, p.to.cell? ⟨w3.heap.size, 1, none⟩ = some (.int .u64 6) := fun p => (HA'.out.gr p.gr).c1
  have b0 : ∀ p : GrBy W, p.to.cell? ⟨w4.heap.size, 0, none⟩ = some (.int .u64 4) := fun p => (HB.out.gr p.gr).c0
  have b1 : ∀ p : GrBy W, p.to.cell? ⟨w4.heap.size, 1, none⟩ = some (.int .u64 3) := fun p => (HB.out.gr p.gr).c1
  refine wp_region_gr (by kernel_rfl) (by kernel_rfl) ?_
  repeat (first
    | go_big_quiet_skip
    | (go_big_quiet_want; go_big_quiet_op; first
      | go_big_quiet_on
      | (apply Exists.intro
         refine ⟨fun p => ?_, ?_⟩
         · first
           | (go_at_call_of 9 (Value.int IntKind.u64 6); exact calls_gr (of_0_6 _))
           | (go_at_call_of 9 (Value.int IntKind.u64 3); exact calls_gr (of_4_3 _))
           | (go_at_call_of 9 (Value.int IntKind.u64 4); exact calls_gr (of_4_1 _))
           | (go_at_call_of 9 (Value.int IntKind.u64 9); exact calls_gr (of_9_0 _))
           | (go_at_call_of 60 (Value.int IntKind.u64 5); exact calls_gr (w_has5 _))
           | (go_at_call_of 60 (Value.int IntKind.u64 8); exact calls_gr (w_has8 _))
           | (go_at_call 61; exact calls_gr (w_in _))
           | (go_at_call_of 62 (Value.int IntKind.u64 6); exact calls_gr (w_may _))
           | (go_at_call_of 62 (Value.int IntKind.u64 1); exact calls_gr (w_mayn _))
           | (go_at_call 63; exact calls_gr (w_const _))
         go_big_quiet_on)))
  refine wpQuiet_nil ?_
  intro _ hw'
  obtain ⟨p, rfl⟩ := hw'
  go_wp2
  go_ret
  exact ⟨rfl, HG.out.trans p.gr⟩
end Go.Proofs.Ytkfjjpdcbdbdiaa
