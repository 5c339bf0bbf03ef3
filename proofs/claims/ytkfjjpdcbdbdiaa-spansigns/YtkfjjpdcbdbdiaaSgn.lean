/- Towards the statements of package span (layer 4): what SpanSigns asks, for every two reaches, any span, any shift. -/
import Derived.Test.YtkfjjpdcbdbdiaaWorks
namespace Go.Proofs.Ytkfjjpdcbdbdiaa
open Go.ChangeShapes Go.WideShapes Go.ChangeAt Go.RowKit
set_option linter.unusedVariables false
set_option maxRecDepth 20000

set_option maxHeartbeats 8000000 in
theorem signs_any (al ah bl bh cl ch : Int) (h1 : InS al) (h2 : InS ah) (h3 : InS bl) (h4 : InS bh) (h5 : InU cl) (h6 : InU ch) (n : Nat) (hn : n < 256) (w : World) : Calls Try.prog 6 #[.agg #[.int .i64 al, .int .i64 ah], .agg #[.int .i64 bl, .int .i64 bh], .agg #[.int .u64 cl, .int .u64 ch], .int .u8 (n : Int)] w fun e w' => e = .returned (.bool true) ∧ Gr w w' := by
  have HA : Hid (At (((w.alloc (.cells #[.int .i64 al, .int .i64 ah] 37)).alloc (.cells #[.int .i64 bl, .int .i64 bh] 37)).alloc (.cells #[.int .u64 cl, .int .u64 ch] 35)) w.heap.size (.int .i64 al) (.int .i64 ah) 37) := ((At.newb _ rfl _ _ _).alloc _).alloc _
  have HB : Hid (At (((w.alloc (.cells #[.int .i64 al, .int .i64 ah] 37)).alloc (.cells #[.int .i64 bl, .int .i64 bh] 37)).alloc (.cells #[.int .u64 cl, .int .u64 ch] 35)) (w.heap.size + 1) (.int .i64 bl) (.int .i64 bh) 37) := (At.newb _ (by simp) _ _ _).alloc _
  have HC : Hid (At (((w.alloc (.cells #[.int .i64 al, .int .i64 ah] 37)).alloc (.cells #[.int .i64 bl, .int .i64 bh] 37)).alloc (.cells #[.int .u64 cl, .int .u64 ch] 35)) (w.heap.size + 1 + 1) (.int .u64 cl) (.int .u64 ch) 35) := At.newb _ (by simp) _ _ _
  have HF : Hid (Gr w (((w.alloc (.cells #[.int .i64 al, .int .i64 ah] 37)).alloc (.cells #[.int .i64 bl, .int .i64 bh] 37)).alloc (.cells #[.int .u64 cl, .int .u64 ch] 35))) := (⟨by go_grown, by go_grown⟩ : Gr w _)
  go_enter Try.func6, Try.ntmps6
  go_wp2_with fail
  revert HA HB HC HF
  generalize (((w.alloc (.cells #[.int .i64 al, .int .i64 ah] 37)).alloc (.cells #[.int .i64 bl, .int .i64 bh] 37)).alloc (.cells #[.int .u64 cl, .int .u64 ch] 35)) = W
  intro HA HB HC HF
  have hne : Nonempty (GrBy W) := ⟨⟨W, Gr.refl W⟩⟩
  have a0 : ∀ p : GrBy W, p.to.cell? ⟨w.heap.size, 0, none⟩ = some (.int .i64 al) := fun p => (HA.out.gr p.gr).c0
  have a1 : ∀ p : GrBy W, p.to.cell? ⟨w.heap.size, 1, none⟩ = some (.int .i64 ah) := fun p => (HA.out.gr p.gr).c1
  have b0 : ∀ p : GrBy W, p.to.cell? ⟨w.heap.size + 1, 0, none⟩ = some (.int .i64 bl) := fun p => (HB.out.gr p.gr).c0
  have b1 : ∀ p : GrBy W, p.to.cell? ⟨w.heap.size + 1, 1, none⟩ = some (.int .i64 bh) := fun p => (HB.out.gr p.gr).c1
  have c0 : ∀ p : GrBy W, p.to.cell? ⟨w.heap.size + 1 + 1, 0, none⟩ = some (.int .u64 cl) := fun p => (HC.out.gr p.gr).c0
  have c1 : ∀ p : GrBy W, p.to.cell? ⟨w.heap.size + 1 + 1, 1, none⟩ = some (.int .u64 ch) := fun p => (HC.out.gr p.gr).c1
  obtain ⟨p', hp'⟩ : ∃ p : GrBy W, p.to = W := ⟨⟨W, Gr.refl W⟩, rfl⟩
  rw [← hp']
  clear hp'
  try simp only [List.append_eq, List.cons_append, List.nil_append]
  refine wp_region_by (by kernel_rfl) (by kernel_rfl) ?_
  repeat (first
    | go_big_quiet_skip
    | (go_big_quiet_want; go_big_quiet_op; first
      | go_big_quiet_on
      | (apply Exists.intro
         refine ⟨fun p => ?_, ?_⟩
         · first
           | (go_at_call 46; exact calls_gr (plus_any _ _ _ _ h1 h2 h3 h4 _))
           | (go_at_call 47; exact calls_gr (rplus _ _ _ _ h1 h2 h3 h4 _))
           | (go_at_call 48; exact calls_gr (minus_any _ _ _ _ h1 h2 h3 h4 _))
           | (go_at_call 49; exact calls_gr (rminus _ _ _ _ h1 h2 h3 h4 _))
           | (go_at_call 50; exact calls_gr (sar_any _ _ h1 h2 _ _))
           | (go_at_call 51; exact calls_gr (rsar _ _ h1 h2 _ _))
           | (go_at_call 52; exact calls_gr (sign_any _ _ _))
           | (go_at_call 53; exact calls_gr (rsign _ _ h5 h6 _))
           | (go_at_call 54; exact calls_gr (bare_any _ _ _))
           | (go_at_call 55; exact calls_gr (rbare _ _ h1 h2 _))
           | (go_at_call 35; exact calls_gr (works_any _))
         go_big_quiet_on)))
  refine wpQuiet_nil ?_
  intro _ hw'
  obtain ⟨q, rfl⟩ := hw'
  go_wp2
  go_ret
  exact ⟨rfl, HF.out.trans q.gr⟩
end Go.Proofs.Ytkfjjpdcbdbdiaa
