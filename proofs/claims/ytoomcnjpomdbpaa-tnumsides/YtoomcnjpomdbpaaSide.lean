/- Towards the statements of package tnum (layer 3): what TnumSides asks, for every two sets. -/
import Derived.Test.YtoomcnjpomdbpaaWorks
import Derived.Test.YtoomcnjpomdbpaaPMul
namespace Go.Proofs.Ytoomcnjpomdbpaa
open Go.ChangeShapes Go.WideShapes Go.ChangeAt Go.RowKit
set_option linter.unusedVariables false
set_option maxRecDepth 20000

theorem andM_ones {v m : BitVec 64} (o : Tn.Ok v m) : v &&& 18446744073709551615#64 = v ∧ andM v m 18446744073709551615#64 0#64 = m := by
  have e : 18446744073709551615#64 = BitVec.allOnes 64 := by decide
  rw [e]
  refine ⟨BitVec.and_allOnes, ?_⟩
  apply BitVec.eq_of_getLsbD_eq
  intro i hi
  unfold andM
  have := o i hi
  simp only [BitVec.getLsbD_and, BitVec.getLsbD_or, BitVec.getLsbD_not, BitVec.getLsbD_allOnes]
  cases e1 : v.getLsbD i <;> cases e2 : m.getLsbD i <;> simp_all
theorem orM_zero {v m : BitVec 64} (o : Tn.Ok v m) : v ||| 0#64 = v ∧ orM v m 0#64 0#64 = m := by
  refine ⟨BitVec.or_zero, ?_⟩
  apply BitVec.eq_of_getLsbD_eq
  intro i hi
  unfold orM
  have := o i hi
  simp only [BitVec.getLsbD_and, BitVec.getLsbD_or, BitVec.getLsbD_not, BitVec.getLsbD_zero]
  cases e1 : v.getLsbD i <;> cases e2 : m.getLsbD i <;> simp_all
theorem join_self {v m : BitVec 64} (o : Tn.Ok v m) : v &&& ~~~(joinM v m v m) = v ∧ joinM v m v m = m := by
  have e : joinM v m v m = m := by unfold joinM; simp
  rw [e]
  exact ⟨Tn.cut_self o, rfl⟩
theorem meet_self {v m : BitVec 64} (o : Tn.Ok v m) : mtV v m v m = v ∧ mtM v m v m = m ∧ meetX v m v m = true := by
  have e : meetX v m v m = true := by unfold meetX; simp
  rw [mtV, mtM, e, if_pos rfl, if_pos rfl]
  refine ⟨?_, by simp, rfl⟩
  simp only [BitVec.or_self, BitVec.and_self]
  exact Tn.cut_self o
theorem meet_comm (a b c d : BitVec 64) : meetX c d a b = meetX a b c d ∧ mtV c d a b = mtV a b c d ∧ mtM c d a b = mtM a b c d := by
  have e : meetX c d a b = meetX a b c d := by rw [meetX, meetX, BitVec.xor_comm c, BitVec.or_comm d]
  refine ⟨e, ?_, ?_⟩
  · rw [mtV, mtV, e, BitVec.or_comm c, BitVec.and_comm d]
  · rw [mtM, mtM, e, BitVec.and_comm d]
theorem joinM_comm (a b c d : BitVec 64) : joinM c d a b = joinM a b c d ∧ c &&& ~~~(joinM c d a b) = a &&& ~~~(joinM a b c d) := by
  have e : joinM c d a b = joinM a b c d := by unfold joinM; rw [BitVec.xor_comm c, BitVec.or_assoc, BitVec.or_comm d, ← BitVec.or_assoc]
  refine ⟨e, ?_⟩
  rw [e]
  apply BitVec.eq_of_getLsbD_eq
  intro i hi
  unfold joinM
  simp only [BitVec.getLsbD_and, BitVec.getLsbD_or, BitVec.getLsbD_not, BitVec.getLsbD_xor]
  cases e1 : a.getLsbD i <;> cases e2 : c.getLsbD i <;> simp_all
theorem andM_comm (a b c d : BitVec 64) : andM c d a b = andM a b c d := by unfold andM; rw [BitVec.and_comm (c ||| d), BitVec.and_comm c]
theorem orM_comm (a b c d : BitVec 64) : orM c d a b = orM a b c d := by unfold orM; rw [BitVec.or_comm d, BitVec.or_comm c]
theorem mul_zr (v m : BitVec 64) : Tn.mulV v m 0#64 0#64 = 0#64 ∧ Tn.mulU v m 0#64 0#64 = 0#64 := by
  rw [Tn.mulV, Tn.mulU, Tn.mulM_zero_right, BitVec.mul_zero]; exact ⟨by decide, by decide⟩
theorem mul_zl (v m : BitVec 64) : Tn.mulV 0#64 0#64 v m = 0#64 ∧ Tn.mulU 0#64 0#64 v m = 0#64 := by
  rw [Tn.mulV, Tn.mulU, Tn.mulM_zero_left, BitVec.zero_mul]; exact ⟨by decide, by decide⟩
theorem c_zero (w : World) : Calls Try.prog 17 #[.int .u64 0] w fun e w' => e = .returned (.agg #[.int .u64 0, .int .u64 0]) ∧ Gr w w' := cst_gr 0#64 w
theorem c_ones (w : World) : Calls Try.prog 17 #[.int .u64 18446744073709551615] w fun e w' => e = .returned (.agg #[.int .u64 18446744073709551615, .int .u64 0]) ∧ Gr w w' := cst_gr 18446744073709551615#64 w
set_option maxHeartbeats 4000000 in
theorem sides_any (v m y n : BitVec 64) (w : World) : Calls Try.prog 8 #[.int .u64 (iv v), .int .u64 (iv m), .int .u64 (iv y), .int .u64 (iv n)] w fun e w' => e = .returned (.bool true) ∧ Gr w w' := by
  have oa : Tn.Ok (v &&& ~~~m) m := Tn.ok_cut v m
  have ob : Tn.Ok (y &&& ~~~n) n := Tn.ok_cut y n
  obtain ⟨av, ha⟩ : ∃ av, v &&& ~~~m = av := ⟨_, rfl⟩
  obtain ⟨bv, hb⟩ : ∃ bv, y &&& ~~~n = bv := ⟨_, rfl⟩
  rw [ha] at oa
  rw [hb] at ob
  have HG : Gr w w := Gr.refl w
  go_enter Try.func8, Try.ntmps8
  go_wp2_with (first
    | (go_at_call 9; refine (of_gr _ _ _).mono ?_; rintro e w' ⟨rfl, hg⟩; replace HG := HG.trans hg; clear hg)
    | (go_at_call_of 17 (Value.int IntKind.u64 0); refine (c_zero _).mono ?_; rintro e x1 ⟨rfl, k1⟩)
    | (go_at_call 17; refine (c_ones _).mono ?_; rintro e x2 ⟨rfl, k2⟩))
  have HA : Hid (At ((x2.alloc (.cells #[.int .u64 0, .int .u64 0] 24)).alloc (.cells #[.int .u64 18446744073709551615, .int .u64 0] 24)) w'.heap.size av m) := ((((At.newb w' rfl av m).alloc _).gr (k1.trans k2)).alloc _).alloc _
  have HB : Hid (At ((x2.alloc (.cells #[.int .u64 0, .int .u64 0] 24)).alloc (.cells #[.int .u64 18446744073709551615, .int .u64 0] 24)) (w'.heap.size + 1) bv n) := (((At.newb _ (by simp) bv n).gr (k1.trans k2)).alloc _).alloc _
  have HZ : Hid (At ((x2.alloc (.cells #[.int .u64 0, .int .u64 0] 24)).alloc (.cells #[.int .u64 18446744073709551615, .int .u64 0] 24)) x2.heap.size 0#64 0#64) := (At.newz x2 rfl).alloc _
  have HO : Hid (At ((x2.alloc (.cells #[.int .u64 0, .int .u64 0] 24)).alloc (.cells #[.int .u64 18446744073709551615, .int .u64 0] 24)) (x2.heap.size + 1) 18446744073709551615#64 0#64) := At.newb _ (by simp) 18446744073709551615#64 0#64
  have HG' : Hid (Gr w ((x2.alloc (.cells #[.int .u64 0, .int .u64 0] 24)).alloc (.cells #[.int .u64 18446744073709551615, .int .u64 0] 24))) := ((((HG.alloc _ _).alloc _ _).trans (k1.trans k2)).alloc _ _).alloc _ _
  clear HG k1 k2
  revert HA HB HZ HO HG'
  generalize ((x2.alloc (.cells #[.int .u64 0, .int .u64 0] 24)).alloc (.cells #[.int .u64 18446744073709551615, .int .u64 0] 24)) = W
  intro HA HB HZ HO HG
  have hne : Nonempty (GrBy W) := ⟨⟨W, Gr.refl W⟩⟩
  have a0 : ∀ p : GrBy W, p.to.cell? ⟨w'.heap.size, 0, none⟩ = some (.int .u64 (iv av)) := fun p => (HA.out.gr p.gr).c0
  have a1 : ∀ p : GrBy W, p.to.cell? ⟨w'.heap.size, 1, none⟩ = some (.int .u64 (iv m)) := fun p => (HA.out.gr p.gr).c1
  have b0 : ∀ p : GrBy W, p.to.cell? ⟨w'.heap.size + 1, 0, none⟩ = some (.int .u64 (iv bv)) := fun p => (HB.out.gr p.gr).c0
  have b1 : ∀ p : GrBy W, p.to.cell? ⟨w'.heap.size + 1, 1, none⟩ = some (.int .u64 (iv n)) := fun p => (HB.out.gr p.gr).c1
  have z0 : ∀ p : GrBy W, p.to.cell? ⟨x2.heap.size, 0, none⟩ = some (.int .u64 (iv 0#64)) := fun p => (HZ.out.gr p.gr).c0
  have z1 : ∀ p : GrBy W, p.to.cell? ⟨x2.heap.size, 1, none⟩ = some (.int .u64 (iv 0#64)) := fun p => (HZ.out.gr p.gr).c1
  have o0 : ∀ p : GrBy W, p.to.cell? ⟨x2.heap.size + 1, 0, none⟩ = some (.int .u64 (iv 18446744073709551615#64)) := fun p => (HO.out.gr p.gr).c0
  have o1 : ∀ p : GrBy W, p.to.cell? ⟨x2.heap.size + 1, 1, none⟩ = some (.int .u64 (iv 0#64)) := fun p => (HO.out.gr p.gr).c1
  have oz : Tn.Ok 0#64 0#64 := Tn.ok_zero _
  clear ha hb
  have q1 := Tn.addV_comm bv n av m
  have q2 := Tn.addU_comm bv n av m
  have q3 := BitVec.and_comm bv av
  have q4 := andM_comm av m bv n
  have q5 := BitVec.or_comm bv av
  have q6 := orM_comm av m bv n
  have q7 : bv ^^^ av = av ^^^ bv := BitVec.xor_comm ..
  have q8 := BitVec.or_comm n m
  obtain ⟨q9, q10⟩ := joinM_comm av m bv n
  rw [q9] at q10
  have q11 := Tn.addV_zero_right oa
  have q12 := Tn.addU_zero oa
  have q13 := Tn.subV_zero oa
  have q14 := Tn.subU_zero oa
  obtain ⟨q15, q16⟩ := andM_ones oa
  obtain ⟨q17, q18⟩ := orM_zero oa
  have q19 : av ^^^ 0#64 = av := BitVec.xor_zero
  have q27 : av &&& ~~~m = av := Tn.cut_self oa
  have q20 : m ||| 0#64 = m := BitVec.or_zero
  have q22 := (join_self oa).2
  obtain ⟨q23, q24⟩ := mul_zr av m
  obtain ⟨q25, q26⟩ := mul_zl av m
  obtain ⟨m1, m2, m3⟩ := meet_comm av m bv n
  obtain ⟨m4, m5, m6⟩ := meet_self oa
  obtain ⟨p, hp⟩ : ∃ p : GrBy W, p.to = W := ⟨⟨W, Gr.refl W⟩, rfl⟩
  rw [← hp]
  clear hp
  refine wp_region_by (by kernel_rfl) (by kernel_rfl) ?_
  repeat (first
    | go_big_quiet_skip
    | (go_big_quiet_want; go_big_quiet_op; first
      | go_big_quiet_on
      | (apply Exists.intro
         refine ⟨fun p => ?_, ?_⟩
         · first
           | (go_at_call 25; exact calls_gr (add_any _ _ _ _ _))
           | (go_at_call 31; exact calls_gr (and_any _ _ _ _ _))
           | (go_at_call 32; exact calls_gr (or_any _ _ _ _ _))
           | (go_at_call 33; exact calls_gr (xor_any _ _ _ _ _))
           | (go_at_call 20; exact calls_gr (join_any _ _ _ _ _))
         go_big_quiet_on)))
  refine wpQuiet_nil ?_
  intro _ hw'
  obtain ⟨q, rfl⟩ := hw'
  go_wp2_with fail
  refine wp_region_by (by kernel_rfl) (by kernel_rfl) ?_
  repeat (first
    | go_big_quiet_skip
    | (go_big_quiet_want; go_big_quiet_op; first
      | go_big_quiet_on
      | (apply Exists.intro
         refine ⟨fun p => ?_, ?_⟩
         · first
           | (go_at_call 25; exact calls_gr (add_any _ _ _ _ _))
           | (go_at_call 27; exact calls_gr (sub_any _ _ _ _ _))
           | (go_at_call 31; exact calls_gr (and_any _ _ _ _ _))
           | (go_at_call 32; exact calls_gr (or_any _ _ _ _ _))
           | (go_at_call 33; exact calls_gr (xor_any _ _ _ _ _))
           | (go_at_call 20; exact calls_gr (join_any _ _ _ _ _))
           | (go_at_call 29; exact calls_gr (mul_any _ _ _ _ (by first | exact oa | exact oz | exact op) _))
         go_big_quiet_on)))
  refine wpQuiet_nil ?_
  intro _ hw'
  obtain ⟨q, rfl⟩ := hw'
  go_wp2_with fail
  have ac0 := (HA.out.gr q.gr).c0
  have ac1 := (HA.out.gr q.gr).c1
  have bc0 := (HB.out.gr q.gr).c0
  have bc1 := (HB.out.gr q.gr).c1
  refine (meet_any _ _ _ _ _).mono ?_
  rintro e w1 ⟨rfl, g1⟩
  have G1 := q.gr.trans g1
  replace ac0 := ((HA.out.gr G1).alloc (.cells #[.int .u64 (iv (mtV av m bv n)), .int .u64 (iv (mtM av m bv n))] 24)).c0
  replace ac1 := ((HA.out.gr G1).alloc (.cells #[.int .u64 (iv (mtV av m bv n)), .int .u64 (iv (mtM av m bv n))] 24)).c1
  replace bc0 := ((HB.out.gr G1).alloc (.cells #[.int .u64 (iv (mtV av m bv n)), .int .u64 (iv (mtM av m bv n))] 24)).c0
  replace bc1 := ((HB.out.gr G1).alloc (.cells #[.int .u64 (iv (mtV av m bv n)), .int .u64 (iv (mtM av m bv n))] 24)).c1
  go_wp2_with fail
  refine (meet_any _ _ _ _ _).mono ?_
  rintro e w2 ⟨rfl, g2⟩
  have K1 := ((At.newb w1 rfl (mtV av m bv n) (mtM av m bv n)).gr g2)
  have G2 := (G1.alloc #[.int .u64 (iv (mtV av m bv n)), .int .u64 (iv (mtM av m bv n))] 24).trans g2
  rw [m1, m2, m3]
  replace ac0 := ((HA.out.gr G2).alloc (.cells #[.int .u64 (iv (mtV av m bv n)), .int .u64 (iv (mtM av m bv n))] 24)).c0
  replace ac1 := ((HA.out.gr G2).alloc (.cells #[.int .u64 (iv (mtV av m bv n)), .int .u64 (iv (mtM av m bv n))] 24)).c1
  go_wp2_with fail
  refine (meet_any _ _ _ _ _).mono ?_
  rintro e w3 ⟨rfl, g3⟩
  have K2 := ((At.newb w2 rfl (mtV av m bv n) (mtM av m bv n)).gr g3)
  have K1' := ((K1.alloc (.cells #[.int .u64 (iv (mtV av m bv n)), .int .u64 (iv (mtM av m bv n))] 24)).gr g3)
  have G3 := (G2.alloc #[.int .u64 (iv (mtV av m bv n)), .int .u64 (iv (mtM av m bv n))] 24).trans g3
  rw [m4, m5, m6]
  replace ac0 := ((HA.out.gr G3).alloc (.cells #[.int .u64 (iv av), .int .u64 (iv m)] 24)).c0
  replace ac1 := ((HA.out.gr G3).alloc (.cells #[.int .u64 (iv av), .int .u64 (iv m)] 24)).c1
  have t0 := (K1'.alloc (.cells #[.int .u64 (iv av), .int .u64 (iv m)] 24)).c0
  have t1 := (K1'.alloc (.cells #[.int .u64 (iv av), .int .u64 (iv m)] 24)).c1
  have u0 := (K2.alloc (.cells #[.int .u64 (iv av), .int .u64 (iv m)] 24)).c0
  have u1 := (K2.alloc (.cells #[.int .u64 (iv av), .int .u64 (iv m)] 24)).c1
  have HF : Hid (Gr w (w3.alloc (.cells #[.int .u64 (iv av), .int .u64 (iv m)] 24))) := (HG.out.trans G3).alloc _ _
  clear K1 K1' K2 G1 G2 G3 g1 g2 g3
  go_wp2_with (first
    | (go_at_call 24; refine (works_any _).mono ?_; rintro e w4 ⟨rfl, g4⟩))
  go_ret
  exact ⟨rfl, HF.out.trans g4⟩

end Go.Proofs.Ytoomcnjpomdbpaa
