/- Towards the statements of package span (layer 4): what SpanReckons asks, for every two spans, any shift. -/
import Derived.Test.YtkfjjpdcbdbdiaaRefD
import Derived.Test.YtkfjjpdcbdbdiaaRefC
import Derived.Test.YtkfjjpdcbdbdiaaWorks
namespace Go.Proofs.Ytkfjjpdcbdbdiaa
open Go.ChangeShapes Go.WideShapes Go.ChangeAt Go.RowKit
set_option linter.unusedVariables false
set_option maxRecDepth 20000

set_option maxHeartbeats 8000000 in
theorem reckons_any (al ah bl bh : Int) (h1 : InU al) (h2 : InU ah) (h3 : InU bl) (h4 : InU bh) (n : Nat) (hn : n < 256) (w : World) : Calls Try.prog 5 #[.agg #[.int .u64 al, .int .u64 ah], .agg #[.int .u64 bl, .int .u64 bh], .int .u8 (n : Int)] w fun e w' => e = .returned (.bool true) ∧ Gr w w' := by
  have HA : Hid (At ((w.alloc (.cells #[.int .u64 al, .int .u64 ah] 35)).alloc (.cells #[.int .u64 bl, .int .u64 bh] 35)) w.heap.size (.int .u64 al) (.int .u64 ah) 35) := (At.newb _ rfl _ _ _).alloc _
  have HB : Hid (At ((w.alloc (.cells #[.int .u64 al, .int .u64 ah] 35)).alloc (.cells #[.int .u64 bl, .int .u64 bh] 35)) (w.heap.size + 1) (.int .u64 bl) (.int .u64 bh) 35) := At.newb _ (by simp) _ _ _
  have HF : Hid (Gr w ((w.alloc (.cells #[.int .u64 al, .int .u64 ah] 35)).alloc (.cells #[.int .u64 bl, .int .u64 bh] 35))) := (⟨by go_grown, by go_grown⟩ : Gr w _)
  go_enter Try.func5, Try.ntmps5
  go_wp2_with fail
  revert HA HB HF
  generalize ((w.alloc (.cells #[.int .u64 al, .int .u64 ah] 35)).alloc (.cells #[.int .u64 bl, .int .u64 bh] 35)) = W
  intro HA HB HF
  have hne : Nonempty (GrBy W) := ⟨⟨W, Gr.refl W⟩⟩
  have a0 : ∀ p : GrBy W, p.to.cell? ⟨w.heap.size, 0, none⟩ = some (.int .u64 al) := fun p => (HA.out.gr p.gr).c0
  have a1 : ∀ p : GrBy W, p.to.cell? ⟨w.heap.size, 1, none⟩ = some (.int .u64 ah) := fun p => (HA.out.gr p.gr).c1
  have b0 : ∀ p : GrBy W, p.to.cell? ⟨w.heap.size + 1, 0, none⟩ = some (.int .u64 bl) := fun p => (HB.out.gr p.gr).c0
  have b1 : ∀ p : GrBy W, p.to.cell? ⟨w.heap.size + 1, 1, none⟩ = some (.int .u64 bh) := fun p => (HB.out.gr p.gr).c1
  obtain ⟨p', hp'⟩ : ∃ p : GrBy W, p.to = W := ⟨⟨W, Gr.refl W⟩, rfl⟩
  rw [← hp']
  clear hp'
  try simp only [List.append_eq, List.cons_append, List.nil_append]
  refine wp_region_by (by kernel_rfl) (by kernel_rfl) ?_
  repeat (first
    | go_big_quiet_skip
    | (go_big_quiet_want; go_big_quiet_op; first
      | go_big_quiet_on
      | (apply Exists.intro
         refine ⟨fun p => ?_, ?_⟩
         · first
           | (go_at_call 36; exact calls_gr (add_any _ _ _ _ h1 h2 h3 h4 _))
           | (go_at_call 38; exact calls_gr (sub_any _ _ _ _ h1 h2 h3 h4 _))
           | (go_at_call 39; exact calls_gr (mul_any _ _ _ _ h1 h2 h3 h4 _))
           | (go_at_call 40; exact calls_gr (div_any _ _ _ _ h1 h2 h3 h4 _))
           | (go_at_call 41; exact calls_gr (mod_any _ _ _ _ h1 h2 h3 h4 _))
           | (go_at_call_of 37 (Value.int IntKind.i64 0); exact calls_gr (do_add _ _ _ _ h1 h2 h3 h4 _))
           | (go_at_call_of 37 (Value.int IntKind.i64 1); exact calls_gr (do_sub _ _ _ _ h1 h2 h3 h4 _))
           | (go_at_call_of 37 (Value.int IntKind.i64 2); exact calls_gr (do_mul _ _ _ _ h1 h2 h3 h4 _))
           | (go_at_call_of 37 (Value.int IntKind.i64 3); exact calls_gr (do_div _ _ _ _ h1 h2 h3 h4 _))
           | (go_at_call_of 37 (Value.int IntKind.i64 4); exact calls_gr (do_mod _ _ _ _ h1 h2 h3 h4 _))
         go_big_quiet_on)))
  refine wpQuiet_nil ?_
  intro _ hw'
  obtain ⟨q, rfl⟩ := hw'
  go_wp2_with fail
  try simp only [List.append_eq, List.cons_append, List.nil_append]
  refine wp_region_by (by kernel_rfl) (by kernel_rfl) ?_
  repeat (first
    | go_big_quiet_skip
    | (go_big_quiet_want; go_big_quiet_op; first
      | go_big_quiet_on
      | (apply Exists.intro
         refine ⟨fun p => ?_, ?_⟩
         · first
           | (go_at_call 42; exact calls_gr (shl_any _ _ h1 h2 _ _))
           | (go_at_call 43; exact calls_gr (rshl _ _ h1 h2 _ _))
           | (go_at_call 44; exact calls_gr (shr_any _ _ h1 h2 _ _))
           | (go_at_call 45; exact calls_gr (rshr _ _ h1 h2 _ _))
           | (go_at_call 35; exact calls_gr (works_any _))
         go_big_quiet_on)))
  refine wpQuiet_nil ?_
  intro _ hw'
  obtain ⟨q, rfl⟩ := hw'
  go_wp2
  go_ret
  exact ⟨rfl, HF.out.trans q.gr⟩
end Go.Proofs.Ytkfjjpdcbdbdiaa
