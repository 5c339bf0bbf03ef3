/- Towards the statements of package tnum (layer 3): what TnumReckons asks, for every two sets and every shift. -/
import Derived.Test.YtoomcnjpomdbpaaSame
import Derived.Test.YtoomcnjpomdbpaaMul
import Derived.Test.YtoomcnjpomdbpaaPMul
namespace Go.Proofs.Ytoomcnjpomdbpaa
open Go.ChangeShapes Go.WideShapes Go.ChangeAt Go.RowKit
set_option linter.unusedVariables false
set_option maxRecDepth 20000

set_option maxHeartbeats 4000000 in
theorem reckons_any (v m y n : BitVec 64) (s : Nat) (hs : s < 256) (w : World) : Calls Try.prog 4 #[.int .u64 (iv v), .int .u64 (iv m), .int .u64 (iv y), .int .u64 (iv n), .int .u8 (s : Int)] w fun e w' => e = .returned (.bool true) ∧ Gr w w' := by
  have oa : Tn.Ok (v &&& ~~~m) m := Tn.ok_cut v m
  have ob : Tn.Ok (y &&& ~~~n) n := Tn.ok_cut y n
  obtain ⟨av, ha⟩ : ∃ av, v &&& ~~~m = av := ⟨_, rfl⟩
  obtain ⟨bv, hb⟩ : ∃ bv, y &&& ~~~n = bv := ⟨_, rfl⟩
  rw [ha] at oa
  rw [hb] at ob
  have HG : Gr w w := Gr.refl w
  go_enter Try.func4, Try.ntmps4
  go_wp2_with (first
    | (go_at_call 9; refine (of_gr _ _ _).mono ?_; rintro e w' ⟨rfl, hg⟩; replace HG := HG.trans hg; clear hg))
  have HA : Hid (At ((w'.alloc (.cells #[.int .u64 (iv av), .int .u64 (iv m)] 24)).alloc (.cells #[.int .u64 (iv bv), .int .u64 (iv n)] 24)) w'.heap.size av m) := (At.newb w' rfl av m).alloc _
  have HB : Hid (At ((w'.alloc (.cells #[.int .u64 (iv av), .int .u64 (iv m)] 24)).alloc (.cells #[.int .u64 (iv bv), .int .u64 (iv n)] 24)) (w'.heap.size + 1) bv n) := At.newb _ (by simp) bv n
  have HG' : Hid (Gr w ((w'.alloc (.cells #[.int .u64 (iv av), .int .u64 (iv m)] 24)).alloc (.cells #[.int .u64 (iv bv), .int .u64 (iv n)] 24))) := (HG.alloc _ _).alloc _ _
  clear HG
  revert HA HB HG'
  generalize ((w'.alloc (.cells #[.int .u64 (iv av), .int .u64 (iv m)] 24)).alloc (.cells #[.int .u64 (iv bv), .int .u64 (iv n)] 24)) = W
  intro HA HB HG
  have hne : Nonempty (GrBy W) := ⟨⟨W, Gr.refl W⟩⟩
  have a0 : ∀ p : GrBy W, p.to.cell? ⟨w'.heap.size, 0, none⟩ = some (.int .u64 (iv av)) := fun p => (HA.out.gr p.gr).c0
  have a1 : ∀ p : GrBy W, p.to.cell? ⟨w'.heap.size, 1, none⟩ = some (.int .u64 (iv m)) := fun p => (HA.out.gr p.gr).c1
  have b0 : ∀ p : GrBy W, p.to.cell? ⟨w'.heap.size + 1, 0, none⟩ = some (.int .u64 (iv bv)) := fun p => (HB.out.gr p.gr).c0
  have b1 : ∀ p : GrBy W, p.to.cell? ⟨w'.heap.size + 1, 1, none⟩ = some (.int .u64 (iv n)) := fun p => (HB.out.gr p.gr).c1
  clear ha hb
  obtain ⟨p, hp⟩ : ∃ p : GrBy W, p.to = W := ⟨⟨W, Gr.refl W⟩, rfl⟩
  rw [← hp]
  clear hp
  refine wp_region_by (by kernel_rfl) (by kernel_rfl) ?_
  repeat (first
    | go_big_quiet_skip
    | (go_big_quiet_want; go_big_quiet_op; first
      | go_big_quiet_on
      | (apply Exists.intro
         refine ⟨fun p => ?_, ?_⟩
         · first
           | (go_at_call 25; exact calls_gr (add_any _ _ _ _ _))
           | (go_at_call 26; exact calls_gr (radd_any _ _ _ _ _))
           | (go_at_call 27; exact calls_gr (sub_any _ _ _ _ _))
           | (go_at_call 28; exact calls_gr (rsub_any _ _ _ _ _))
           | (go_at_call 29; exact calls_gr (mul_any _ _ _ _ (by first | exact oa | exact oz | exact op) _))
           | (go_at_call 30; exact calls_gr (rmul_any _ _ _ _ _))
         go_big_quiet_on)))
  refine wpQuiet_nil ?_
  intro _ hw'
  obtain ⟨q, rfl⟩ := hw'
  go_wp2_with fail
  refine wp_region_by (by kernel_rfl) (by kernel_rfl) ?_
  repeat (first
    | go_big_quiet_skip
    | (go_big_quiet_want; go_big_quiet_op; first
      | go_big_quiet_on
      | (apply Exists.intro
         refine ⟨fun p => ?_, ?_⟩
         · first
           | (go_at_call_of 21 (Value.int IntKind.i64 1); exact calls_gr (sand_any _ _ _ _ oa ob _))
           | (go_at_call_of 21 (Value.int IntKind.i64 2); exact calls_gr (sor_any _ _ _ _ oa ob _))
           | (go_at_call_of 21 (Value.int IntKind.i64 3); exact calls_gr (sxor_any _ _ _ _ oa ob _))
           | (go_at_call 31; exact calls_gr (and_any _ _ _ _ _))
           | (go_at_call 32; exact calls_gr (or_any _ _ _ _ _))
           | (go_at_call 33; exact calls_gr (xor_any _ _ _ _ _))
         go_big_quiet_on)))
  refine wpQuiet_nil ?_
  intro _ hw'
  obtain ⟨q, rfl⟩ := hw'
  go_wp2_with fail
  refine wp_region_by (by kernel_rfl) (by kernel_rfl) ?_
  repeat (first
    | go_big_quiet_skip
    | (go_big_quiet_want; go_big_quiet_op; first
      | go_big_quiet_on
      | (apply Exists.intro
         refine ⟨fun p => ?_, ?_⟩
         · first
           | (go_at_call_of 35 (Value.int IntKind.i64 0); exact calls_gr (sshl_any _ _ oa _ hs _))
           | (go_at_call_of 35 (Value.int IntKind.i64 1); exact calls_gr (sshr_any _ _ oa _ hs _))
           | (go_at_call_of 35 (Value.int IntKind.i64 2); exact calls_gr (ssar_any _ _ oa _ hs _))
           | (go_at_call 34; exact calls_gr (shl_any _ _ _ _))
           | (go_at_call 36; exact calls_gr (shr_any _ _ _ _))
           | (go_at_call 37; exact calls_gr (sar_any _ _ _ _))
         go_big_quiet_on)))
  refine wpQuiet_nil ?_
  intro _ hw'
  obtain ⟨q, rfl⟩ := hw'
  go_wp2_with (first
    | (go_at_call 24; refine (works_any _).mono ?_; rintro e w' ⟨rfl, hg⟩; obtain ⟨q, rfl⟩ := by_of hg; clear hg))
  go_ret
  exact ⟨rfl, HG.out.trans q.gr⟩

end Go.Proofs.Ytoomcnjpomdbpaa
