/- Towards the statements of package tnum (layer 3): what TnumSets asks, for every two sets, any numbers, any count of bits. -/
import Derived.Test.YtoomcnjpomdbpaaSame
namespace Go.Proofs.Ytoomcnjpomdbpaa
open Go.ChangeShapes Go.WideShapes Go.ChangeAt Go.RowKit
set_option linter.unusedVariables false
set_option maxRecDepth 20000

theorem of_x0 (x : BitVec 64) (w : World) : Calls Try.prog 9 #[.int .u64 (iv x), .int .u64 0] w fun e w' => e = .returned (.agg #[.int .u64 (iv x), .int .u64 (iv 0#64)]) ∧ Gr w w' := by
  have h := of_gr x 0#64 w
  have e : x &&& ~~~0#64 = x := by
    rw [show ~~~0#64 = BitVec.allOnes 64 from by decide, BitVec.and_allOnes]
  rw [e] at h
  exact h
theorem may_ok (v m : BitVec 64) (o : Tn.Ok v m) (w : World) : Calls Try.prog 12 #[.agg #[.int .u64 (iv v), .int .u64 (iv m)]] w fun e w' => e = .returned (.bool true) ∧ Gr w w' := by
  have h := may_gr v m w
  rw [Tn.ok_and o] at h
  exact h
set_option maxHeartbeats 4000000 in
theorem sets_any (v m y n x : BitVec 64) (s : Nat) (hs : s < 256) (w : World) : Calls Try.prog 3 #[.int .u64 (iv v), .int .u64 (iv m), .int .u64 (iv y), .int .u64 (iv n), .int .u64 (iv x), .int .u8 (s : Int)] w fun e w' => e = .returned (.bool true) ∧ Gr w w' := by
  have oa : Tn.Ok (v &&& ~~~m) m := Tn.ok_cut v m
  have ob : Tn.Ok (y &&& ~~~n) n := Tn.ok_cut y n
  obtain ⟨av, ha⟩ : ∃ av, v &&& ~~~m = av := ⟨_, rfl⟩
  obtain ⟨bv, hb⟩ : ∃ bv, y &&& ~~~n = bv := ⟨_, rfl⟩
  rw [ha] at oa
  rw [hb] at ob
  have HG : Gr w w := Gr.refl w
  go_enter Try.func3, Try.ntmps3
  go_wp2_with (first
    | (go_at_call 9; refine (of_gr _ _ _).mono ?_; rintro e w' ⟨rfl, hg⟩; replace HG := HG.trans hg; clear hg))
  refine (meet_any _ _ _ _ _).mono ?_
  rintro e w1 ⟨rfl, g1⟩
  clear ha hb
  have HA1 := ((At.newb w' rfl av m).alloc (.cells #[.int .u64 (iv bv), .int .u64 (iv n)] 24)).gr g1
  have HB1 := (At.newb (w'.alloc (.cells #[.int .u64 (iv av), .int .u64 (iv m)] 24)) (show w'.heap.size + 1 = _ by simp) bv n).gr g1
  have G1 := ((HG.alloc #[.int .u64 (iv av), .int .u64 (iv m)] 24).alloc #[.int .u64 (iv bv), .int .u64 (iv n)] 24).trans g1
  have ac0 := (HA1.alloc (.cells #[.int .u64 (iv (mtV av m bv n)), .int .u64 (iv (mtM av m bv n))] 24)).c0
  have ac1 := (HA1.alloc (.cells #[.int .u64 (iv (mtV av m bv n)), .int .u64 (iv (mtM av m bv n))] 24)).c1
  have bc0 := (HB1.alloc (.cells #[.int .u64 (iv (mtV av m bv n)), .int .u64 (iv (mtM av m bv n))] 24)).c0
  have bc1 := (HB1.alloc (.cells #[.int .u64 (iv (mtV av m bv n)), .int .u64 (iv (mtM av m bv n))] 24)).c1
  have X1 : Hid _ := HA1
  have X2 : Hid _ := HB1
  clear HA1 HB1 g1 HG
  go_wp2_with fail
  refine (smeet_any _ _ _ _ oa ob _).mono ?_
  rintro e w2 ⟨rfl, g2⟩
  have HA : Hid (At (w2.alloc (.cells #[.int .u64 (iv (mtV av m bv n)), .int .u64 (iv (mtM av m bv n))] 24)) w'.heap.size av m) := ((At.alloc X1.out (.cells #[.int .u64 (iv (mtV av m bv n)), .int .u64 (iv (mtM av m bv n))] 24)).gr g2).alloc _
  have HB : Hid (At (w2.alloc (.cells #[.int .u64 (iv (mtV av m bv n)), .int .u64 (iv (mtM av m bv n))] 24)) (w'.heap.size + 1) bv n) := ((At.alloc X2.out (.cells #[.int .u64 (iv (mtV av m bv n)), .int .u64 (iv (mtM av m bv n))] 24)).gr g2).alloc _
  have HT : Hid (At (w2.alloc (.cells #[.int .u64 (iv (mtV av m bv n)), .int .u64 (iv (mtM av m bv n))] 24)) w1.heap.size (mtV av m bv n) (mtM av m bv n)) := ((At.newb w1 rfl _ _).gr g2).alloc _
  have HU : Hid (At (w2.alloc (.cells #[.int .u64 (iv (mtV av m bv n)), .int .u64 (iv (mtM av m bv n))] 24)) w2.heap.size (mtV av m bv n) (mtM av m bv n)) := At.newb w2 rfl _ _
  have HF : Hid (Gr w (w2.alloc (.cells #[.int .u64 (iv (mtV av m bv n)), .int .u64 (iv (mtM av m bv n))] 24))) := ((G1.alloc _ _).trans g2).alloc _ _
  clear X1 X2 G1 g2 ac0 ac1 bc0 bc1
  have ac0 := HA.out.c0
  have ac1 := HA.out.c1
  have hm0 : (av &&& m == 0#64) = true := by rw [Tn.ok_and oa]; rfl
  have rq := iv_and v m
  have re := iv_eq0 (v &&& m)
  go_wp2_with fail
  revert HA HB HT HU HF
  generalize w2.alloc (.cells #[.int .u64 (iv (mtV av m bv n)), .int .u64 (iv (mtM av m bv n))] 24) = W
  intro HA HB HT HU HF
  have hne : Nonempty (GrBy W) := ⟨⟨W, Gr.refl W⟩⟩
  clear ac0 ac1
  have a0 : ∀ p : GrBy W, p.to.cell? ⟨w'.heap.size, 0, none⟩ = some (.int .u64 (iv av)) := fun p => (HA.out.gr p.gr).c0
  have a1 : ∀ p : GrBy W, p.to.cell? ⟨w'.heap.size, 1, none⟩ = some (.int .u64 (iv m)) := fun p => (HA.out.gr p.gr).c1
  have b0 : ∀ p : GrBy W, p.to.cell? ⟨w'.heap.size + 1, 0, none⟩ = some (.int .u64 (iv bv)) := fun p => (HB.out.gr p.gr).c0
  have b1 : ∀ p : GrBy W, p.to.cell? ⟨w'.heap.size + 1, 1, none⟩ = some (.int .u64 (iv n)) := fun p => (HB.out.gr p.gr).c1
  have t0 : ∀ p : GrBy W, p.to.cell? ⟨w1.heap.size, 0, none⟩ = some (.int .u64 (iv (mtV av m bv n))) := fun p => (HT.out.gr p.gr).c0
  have t1 : ∀ p : GrBy W, p.to.cell? ⟨w1.heap.size, 1, none⟩ = some (.int .u64 (iv (mtM av m bv n))) := fun p => (HT.out.gr p.gr).c1
  have u0 : ∀ p : GrBy W, p.to.cell? ⟨w2.heap.size, 0, none⟩ = some (.int .u64 (iv (mtV av m bv n))) := fun p => (HU.out.gr p.gr).c0
  have u1 : ∀ p : GrBy W, p.to.cell? ⟨w2.heap.size, 1, none⟩ = some (.int .u64 (iv (mtM av m bv n))) := fun p => (HU.out.gr p.gr).c1
  obtain ⟨p, hp⟩ : ∃ p : GrBy W, p.to = W := ⟨⟨W, Gr.refl W⟩, rfl⟩
  rw [← hp]
  clear hp
  simp only [List.append_eq, List.cons_append, List.nil_append]
  refine wp_region_by (by kernel_rfl) (by kernel_rfl) ?_
  repeat (first
    | go_big_quiet_skip
    | (go_big_quiet_want; go_big_quiet_op; first
      | go_big_quiet_on
      | (apply Exists.intro
         refine ⟨fun p => ?_, ?_⟩
         · first
           | (go_at_call_of 12 (Value.int IntKind.u64 (iv av)); exact calls_gr (may_ok _ _ oa _))
           | (go_at_call 9; exact calls_gr (of_x0 _ _))
           | (go_at_call 21; exact calls_gr (sjoin_any _ _ _ _ oa ob _))
           | (go_at_call 12; exact calls_gr (may_gr _ _ _))
           | (go_at_call 13; exact calls_gr (has_gr _ _ _ _))
           | (go_at_call 14; exact calls_gr (shas_any _ _ _ oa _))
           | (go_at_call 15; exact calls_gr (in_any _ _ _ _ _))
           | (go_at_call 16; exact calls_gr (sin_any _ _ _ _ ob _))
           | (go_at_call 17; exact calls_gr (cst_gr _ _))
           | (go_at_call 18; exact calls_gr (range_any _ _ _))
           | (go_at_call 19; exact calls_gr (rrange_any _ _ _))
           | (go_at_call 20; exact calls_gr (join_any _ _ _ _ _))
           | (go_at_call 22; exact calls_gr (low_any _ _ _ _))
           | (go_at_call 23; exact calls_gr (slow_any _ _ oa _ hs _))
           | (go_at_call 24; exact calls_gr (works_any _))
         go_big_quiet_on)))
  refine wpQuiet_nil ?_
  intro _ hw'
  obtain ⟨q, rfl⟩ := hw'
  go_wp2
  go_ret
  exact ⟨rfl, HF.out.trans q.gr⟩

end Go.Proofs.Ytoomcnjpomdbpaa
