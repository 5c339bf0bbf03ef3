/- Towards the statements of package tnum (layer 3): what TnumLeast asks, for every two sets in which at most four bits are not known. -/
import Derived.Test.YtkfjjpdcbdbdiaaTLr
namespace Go.Proofs.Ytkfjjpdcbdbdiaa
open Go.ChangeShapes Go.WideShapes Go.ChangeAt Go.RowKit
set_option linter.unusedVariables false
set_option maxRecDepth 20000

theorem ok_of (v m : BitVec 64) : Tn.Ok (v &&& ~~~m) m := by
  intro i hi h
  simp [h]
theorem cell_dr {w : World} {a : Addr} {v : Value} (h : w.cell? a = some v) : w.drew.cell? a = some v := h
set_option maxHeartbeats 16000000 in
theorem least_all (v m u n : BitVec 64) (w : World) : Calls Try.prog 3 #[.int .u64 (iv v), .int .u64 (iv m), .int .u64 (iv u), .int .u64 (iv n)] w fun e w' => e = .returned (.bool true) ∧ Gr w w' := by
  obtain ⟨i0, hi, hz0, hz1, hz2⟩ := info_parts info_u64
  have HI : Hid (Try.prog.info? 22 = some i0 ∧ i0.zero = some (.int .u64 0) ∧ i0.size = 1 ∧ i0.bytes = 8) := ⟨hi, hz0, hz1, hz2⟩
  clear hi hz0 hz1 hz2
  go_enter Try.func3, Try.ntmps3
  go_wp2_with (first
    | (go_at_call_of 10 (Value.int IntKind.u64 (iv m)); refine (few_any _ _).mono ?_; rintro e w' ⟨⟨zm, rfl, hz⟩, hw⟩; rw [hw]; clear hw; have HZ : Hid (cntB zm 64 ≤ 4) := hz; clear hz)
    | (go_at_call_of 10 (Value.int IntKind.u64 (iv n)); refine (few_any _ _).mono ?_; rintro e w' ⟨⟨zn, rfl, hz⟩, hw⟩; rw [hw]; clear hw; have HY : Hid (cntB zn 64 ≤ 4) := hz; clear hz)
    | (go_at_call 9; refine (of_any _ _ _).mono ?_; rintro e w' ⟨rfl, hw⟩; subst hw))
  have HA : Hid (At ((((w.alloc (.cells #[.int .u64 (iv (v &&& ~~~zm)), .int .u64 (iv zm)] 24)).alloc (.cells #[.int .u64 (iv (u &&& ~~~zn)), .int .u64 (iv zn)] 24)).alloc (.cells #[.int .u64 (iv (v &&& ~~~zm)), .int .u64 (iv zm)] 24)).alloc (.cells #[.int .u64 (iv (u &&& ~~~zn)), .int .u64 (iv zn)] 24)) (w.heap.size + 1 + 1) (v &&& ~~~zm) zm) := (At.newb _ (by simp) _ _).alloc _
  have HB : Hid (At ((((w.alloc (.cells #[.int .u64 (iv (v &&& ~~~zm)), .int .u64 (iv zm)] 24)).alloc (.cells #[.int .u64 (iv (u &&& ~~~zn)), .int .u64 (iv zn)] 24)).alloc (.cells #[.int .u64 (iv (v &&& ~~~zm)), .int .u64 (iv zm)] 24)).alloc (.cells #[.int .u64 (iv (u &&& ~~~zn)), .int .u64 (iv zn)] 24)) (w.heap.size + 1 + 1 + 1) (u &&& ~~~zn) zn) := At.newb _ (by simp) _ _
  have HF : Hid (Gr w ((((w.alloc (.cells #[.int .u64 (iv (v &&& ~~~zm)), .int .u64 (iv zm)] 24)).alloc (.cells #[.int .u64 (iv (u &&& ~~~zn)), .int .u64 (iv zn)] 24)).alloc (.cells #[.int .u64 (iv (v &&& ~~~zm)), .int .u64 (iv zm)] 24)).alloc (.cells #[.int .u64 (iv (u &&& ~~~zn)), .int .u64 (iv zn)] 24))) := (⟨by go_grown, by go_grown⟩ : Gr w _)
  have OA : Hid (Tn.Ok (v &&& ~~~zm) zm) := ok_of v zm
  have OB : Hid (Tn.Ok (u &&& ~~~zn) zn) := ok_of u zn
  revert HA HB HF OA OB
  generalize ((((w.alloc (.cells #[.int .u64 (iv (v &&& ~~~zm)), .int .u64 (iv zm)] 24)).alloc (.cells #[.int .u64 (iv (u &&& ~~~zn)), .int .u64 (iv zn)] 24)).alloc (.cells #[.int .u64 (iv (v &&& ~~~zm)), .int .u64 (iv zm)] 24)).alloc (.cells #[.int .u64 (iv (u &&& ~~~zn)), .int .u64 (iv zn)] 24)) = W
  generalize w.heap.size + 1 + 1 = A
  generalize v &&& ~~~zm = av
  generalize u &&& ~~~zn = bv
  intro HA HB HF OA OB
  have a0 := At.c0 HA.out
  have a1 := At.c1 HA.out
  have b0 := At.c0 HB.out
  have b1 := At.c1 HB.out
  go_cut [11, 12] (fun p q wx => ∃ g1 c1 g2 c2, p = .slice (some ⟨g1, 0, none⟩) (Tn.allL av zm 64).length c1 ∧ q = .slice (some ⟨g2, 0, none⟩) (Tn.allL bv zn 64).length c2 ∧ RowB wx g1 (Tn.allL av zm 64) ∧ RowB wx g2 (Tn.allL bv zn 64) ∧ At wx A av zm ∧ At wx (A + 1) bv zn ∧ Gr w wx)
  case first =>
    go_region_held3 (fun w' => w'.cell? ⟨A, 0, none⟩ = some (.int .u64 (iv av)) ∧ w'.cell? ⟨A, 1, none⟩ = some (.int .u64 (iv zm)) ∧ w'.cell? ⟨A + 1, 0, none⟩ = some (.int .u64 (iv bv)) ∧ w'.cell? ⟨A + 1, 1, none⟩ = some (.int .u64 (iv zn))) ((refine ⟨?_, ?_, ?_, ?_⟩ <;> repeat (with_reducible (first | assumption | apply cell_dr | (refine cell_grw (by assumption) ?_)))))
      (first
        | (go_at_call_of 11 (Value.agg #[Value.int IntKind.u64 (iv av), Value.int IntKind.u64 (iv zm)]); refine (all_any _ _ HZ.out _).mono ?_; rintro e w1 ⟨⟨g1, c1, rfl, _, hr1⟩, hg1⟩)
        | (go_at_call_of 11 (Value.agg #[Value.int IntKind.u64 (iv bv), Value.int IntKind.u64 (iv zn)]); refine (all_any _ _ HY.out _).mono ?_; rintro e w2 ⟨⟨g2, c2, rfl, _, hr2⟩, hg2⟩))
    all_goals go_wp2_with fail
    all_goals go_meet
    case rel => exact ⟨g1, c1, g2, c2, rfl, rfl, hr1.gr hg2, hr2, ((At.drew HA.out).gr hg1).gr hg2, ((At.drew HB.out).gr hg1).gr hg2, ((HF.out.drew).trans hg1).trans hg2⟩
  case rest =>
    obtain ⟨gp, cp, gq, cq, rfl, rfl, h1, h2, h3, h4, h5⟩ := hcut
    obtain ⟨P, hP⟩ : ∃ P, Tn.allL av zm 64 = P := ⟨_, rfl⟩
    obtain ⟨Q, hQ⟩ : ∃ Q, Tn.allL bv zn 64 = Q := ⟨_, rfl⟩
    have hlp : P.length ≤ 16 := hP ▸ all_few av zm HZ.out
    have hlq : Q.length ≤ 16 := hQ ▸ all_few bv zn HY.out
    rw [hP] at h1
    rw [hQ] at h2
    simp only [hP, hQ]
    have HP : Hid (Tn.allL av zm 64 = P) := hP
    have HQ : Hid (Tn.allL bv zn 64 = Q) := hQ
    have H1 : Hid (RowB wc gp P) := h1
    have H2 : Hid (RowB wc gq Q) := h2
    have H3 : Hid (At wc A av zm) := h3
    have H4 : Hid (At wc (A + 1) bv zn) := h4
    have H5 : Hid (Gr w wc) := h5
    clear h1 h2 h3 h4 h5 hP hQ HA HB HF a0 a1 b0 b1
    -- FROM HERE
    obtain ⟨lp, hlp'⟩ := Tn.all_head av zm 64
    obtain ⟨lq, hlq'⟩ := Tn.all_head bv zn 64
    have hgp : gp < wc.heap.size := World.block_lt_of_cell? wc _ (H1.out 0 av (by rw [← HP.out, hlp']; rfl))
    have hgq : gq < wc.heap.size := World.block_lt_of_cell? wc _ (H2.out 0 bv (by rw [← HQ.out, hlq']; rfl))
    have hA := At.lt H3.out
    have hA1 := At.lt H4.out
    have hwB := H5.out.below.size
    have S0 : Hid (St w (wc.alloc (.cells #[(.slice none 0 0), (.slice none 0 0), (.slice none 0 0), (.slice none 0 0), (.slice none 0 0)] 29)) wc.heap.size (wc.heap.size + 1) gp gq A (A + 1) P Q av zm bv zn (fun j => Tn.pairs (opN j) (P.take 0) Q) (fun _ => (.slice none 0 0))) :=
      ⟨heap_alloc_new wc _, fun _ _ => World.ownsRow_nil _ _ _ _, fun _ _ _ _ _ => Or.inl rfl, H1.out.gr ((Gr.refl wc).alloc _ _), H2.out.gr ((Gr.refl wc).alloc _ _), At.alloc H3.out _, At.alloc H4.out _, H5.out.alloc _ _, by simp⟩
    go_wp2_with fail
    revert S0
    generalize (wc.alloc (.cells #[(.slice none 0 0), (.slice none 0 0), (.slice none 0 0), (.slice none 0 0), (.slice none 0 0)] 29)) = W0
    intro S0
    have HPQ : Hid (lp.length < 1000000 ∧ lq.length < 1000000) := by
      have h1 := all_few av zm HZ.out
      have h2 := all_few bv zn HY.out
      rw [hlp'] at h1
      rw [hlq'] at h2
      simp at h1 h2
      exact ⟨by omega, by omega⟩
    have HLP : Hid (Tn.allL av zm 64 = av :: lp ∧ Tn.allL bv zn 64 = bv :: lq) := ⟨hlp', hlq'⟩
    clear hlp' hlq' H1 H2 H3 H4 H5
    revert hgp hgq hA hA1 hwB S0
    generalize wc.heap.size = B
    intro hgp hgq hA hA1 hwB S0
    go_loopw [14] (fun i wr => ∃ (k : Nat) (s : Nat → Value), k ≤ P.length ∧ i = .int .i64 (k : Nat) ∧ St w wr B (B + 1) gp gq A (A + 1) P Q av zm bv zn (fun j => Tn.pairs (opN j) (P.take k) Q) s) (fun i _ => P.length - (intOf i).toNat)
    case atStart => exact ⟨0, _, by omega, rfl, S0.out⟩
    case round =>
      obtain ⟨k, s, hk, rfl, h1⟩ := hrel
      have H1 : Hid (St w wr B (B + 1) gp gq A (A + 1) P Q av zm bv zn (fun j => Tn.pairs (opN j) (P.take k) Q) s) := h1
      clear h1 S0
      by_cases hlt : k < P.length
      · obtain ⟨x, hx⟩ : ∃ x, P[k]? = some x := ⟨P[k], List.getElem?_eq_getElem hlt⟩
        have HX : Hid (P[k]? = some x) := hx
        clear hx
        have hkt : decide ((k : Int) < (P.length : Int)) = true := decide_eq_true (by omega)
        go_wp2_with fail
        go_loopw [15] (fun i wr => ∃ (c : Nat) (s : Nat → Value), c ≤ Q.length ∧ i = .int .i64 (c : Nat) ∧ St w wr B (B + 1) gp gq A (A + 1) P Q av zm bv zn (fun j => Tn.pairs (opN j) (P.take k) Q ++ (Q.take c).map (opN j x)) s) (fun i _ => Q.length - (intOf i).toNat)
        case atStart => exact ⟨0, s, by omega, rfl, H1.out.cong fun j _ => by simp⟩
        case round =>
          obtain ⟨c, s', hc, rfl, h2⟩ := hrel
          have H2 : Hid (St w wr B (B + 1) gp gq A (A + 1) P Q av zm bv zn (rowsN (fun j => Tn.pairs (opN j) (P.take k) Q) x Q c 0) s') := h2.cong fun j _ => rows_zero (fun j => Tn.pairs (opN j) (P.take k) Q) x Q c j
          clear h2 H1
          by_cases hlc : c < Q.length
          · obtain ⟨y, hy⟩ : ∃ y, Q[c]? = some y := ⟨Q[c], List.getElem?_eq_getElem hlc⟩
            have HYQ : Hid (Q[c]? = some y) := hy
            clear hy
            have hct : decide ((c : Int) < (Q.length : Int)) = true := decide_eq_true (by omega)
            have k0 : (0 : Int) ≤ (k : Int) := by omega
            have k1 : (k : Int) < (P.length : Int) := by omega
            have q0 : (0 : Int) ≤ (c : Int) := by omega
            have q1 : (c : Int) < (Q.length : Int) := by omega
            have HLR : Hid (∀ r j, (rowsN (fun j => Tn.pairs (opN j) (P.take k) Q) x Q c r j).length ≤ 300) := fun r j => rows_len hlp hlq x k c r j
            go_upto_region 10 with fail
            refine reg_0 w wr B gp gq A cp cq k c P Q av zm bv zn x y s' i0 HI H2 hlp hlq hwB hgp hgq hA hA1 k1 q1 HX HYQ _ _ _ _ _ _ _ _ _ _ _ _ _ _ _ _ _ _ _ _ _ _ _ _ _ _ _ _ _ _ _ _ _ _ _ _ _ _ _ _ _ _ _ _ _ _ _ _ _ _ _ _ _ _ _ _ _ _ _ _ _ _ _ _ _ _ _ _ _ _ _ _ _ _ _ _ _ _ _ _ _ _ _ _ _ _ _ _ _ _ _ _ _ _ _ _ _ _ _ _ _ _ _ _ _ _ _ _ _ _ _ _ _ _ _ _ _ _ _ _ _ _ _ _ _ _ _ _ _ _ _ _ _ _ _ _ _ _ _ _ _ _ _ _ _ _ _ _ _ _ _ _ _ _ _ _ _ _ _ _ _ _ _ _ _ ?_
            intro t0 t1 t2 t3 t4 t5 t6 t7 t8 t9 t10 t11 t12 t13 w0 s0 hst
            have K0 : Hid (St w w0 B (B + 1) gp gq A (A + 1) P Q av zm bv zn (rowsN (fun j => Tn.pairs (opN j) (P.take k) Q) x Q c 1) s0) := hst
            clear hst H2
            go_upto_region 11 with fail
            refine reg_1 w w0 B gp gq A cp cq k c P Q av zm bv zn x y s0 i0 HI K0 hlp hlq hwB hgp hgq hA hA1 k1 q1 HX HYQ _ _ _ _ _ _ _ _ _ _ _ _ _ _ _ _ _ _ _ _ _ _ _ _ _ _ _ _ _ _ _ _ _ _ _ _ _ _ _ _ _ _ _ _ _ _ _ _ _ _ _ _ _ _ _ _ _ _ _ _ _ _ _ _ _ _ _ _ _ _ _ _ _ _ _ _ _ _ _ _ _ _ _ _ _ _ _ _ _ _ _ _ _ _ _ _ _ _ _ _ _ _ _ _ _ _ _ _ _ _ _ _ _ _ _ _ _ _ _ _ _ _ _ _ _ _ _ _ _ _ _ _ _ _ _ _ _ _ _ _ _ _ _ _ _ _ _ _ _ _ _ _ _ _ _ _ _ _ _ _ _ _ _ _ _ ?_
            intro t0 t1 t2 t3 t4 t5 t6 t7 t8 t9 t10 t11 t12 t13 w1 s1 hst
            have K1 : Hid (St w w1 B (B + 1) gp gq A (A + 1) P Q av zm bv zn (rowsN (fun j => Tn.pairs (opN j) (P.take k) Q) x Q c 2) s1) := hst
            clear hst K0
            go_upto_region 12 with fail
            refine reg_2 w w1 B gp gq A cp cq k c P Q av zm bv zn x y s1 i0 HI K1 hlp hlq hwB hgp hgq hA hA1 k1 q1 HX HYQ _ _ _ _ _ _ _ _ _ _ _ _ _ _ _ _ _ _ _ _ _ _ _ _ _ _ _ _ _ _ _ _ _ _ _ _ _ _ _ _ _ _ _ _ _ _ _ _ _ _ _ _ _ _ _ _ _ _ _ _ _ _ _ _ _ _ _ _ _ _ _ _ _ _ _ _ _ _ _ _ _ _ _ _ _ _ _ _ _ _ _ _ _ _ _ _ _ _ _ _ _ _ _ _ _ _ _ _ _ _ _ _ _ _ _ _ _ _ _ _ _ _ _ _ _ _ _ _ _ _ _ _ _ _ _ _ _ _ _ _ _ _ _ _ _ _ _ _ _ _ _ _ _ _ _ _ _ _ _ _ _ _ _ _ _ ?_
            intro t0 t1 t2 t3 t4 t5 t6 t7 t8 t9 t10 t11 t12 t13 w2 s2 hst
            have K2 : Hid (St w w2 B (B + 1) gp gq A (A + 1) P Q av zm bv zn (rowsN (fun j => Tn.pairs (opN j) (P.take k) Q) x Q c 3) s2) := hst
            clear hst K1
            go_upto_region 13 with fail
            refine reg_3 w w2 B gp gq A cp cq k c P Q av zm bv zn x y s2 i0 HI K2 hlp hlq hwB hgp hgq hA hA1 k1 q1 HX HYQ _ _ _ _ _ _ _ _ _ _ _ _ _ _ _ _ _ _ _ _ _ _ _ _ _ _ _ _ _ _ _ _ _ _ _ _ _ _ _ _ _ _ _ _ _ _ _ _ _ _ _ _ _ _ _ _ _ _ _ _ _ _ _ _ _ _ _ _ _ _ _ _ _ _ _ _ _ _ _ _ _ _ _ _ _ _ _ _ _ _ _ _ _ _ _ _ _ _ _ _ _ _ _ _ _ _ _ _ _ _ _ _ _ _ _ _ _ _ _ _ _ _ _ _ _ _ _ _ _ _ _ _ _ _ _ _ _ _ _ _ _ _ _ _ _ _ _ _ _ _ _ _ _ _ _ _ _ _ _ _ _ _ _ _ _ ?_
            intro t0 t1 t2 t3 t4 t5 t6 t7 t8 t9 t10 t11 t12 t13 w3 s3 hst
            have K3 : Hid (St w w3 B (B + 1) gp gq A (A + 1) P Q av zm bv zn (rowsN (fun j => Tn.pairs (opN j) (P.take k) Q) x Q c 4) s3) := hst
            clear hst K2
            go_upto_region 14 with fail
            refine reg_4 w w3 B gp gq A cp cq k c P Q av zm bv zn x y s3 i0 HI K3 hlp hlq hwB hgp hgq hA hA1 k1 q1 HX HYQ _ _ _ _ _ _ _ _ _ _ _ _ _ _ _ _ _ _ _ _ _ _ _ _ _ _ _ _ _ _ _ _ _ _ _ _ _ _ _ _ _ _ _ _ _ _ _ _ _ _ _ _ _ _ _ _ _ _ _ _ _ _ _ _ _ _ _ _ _ _ _ _ _ _ _ _ _ _ _ _ _ _ _ _ _ _ _ _ _ _ _ _ _ _ _ _ _ _ _ _ _ _ _ _ _ _ _ _ _ _ _ _ _ _ _ _ _ _ _ _ _ _ _ _ _ _ _ _ _ _ _ _ _ _ _ _ _ _ _ _ _ _ _ _ _ _ _ _ _ _ _ _ _ _ _ _ _ _ _ _ _ _ _ _ _ ?_
            intro t0 t1 t2 t3 t4 t5 t6 t7 t8 t9 t10 t11 t12 t13 w4 s4 hst
            have K4 : Hid (St w w4 B (B + 1) gp gq A (A + 1) P Q av zm bv zn (rowsN (fun j => Tn.pairs (opN j) (P.take k) Q) x Q c 5) s4) := hst
            clear hst K3
            go_wp2_with fail
            go_roundw
            case rel => exact ⟨c + 1, s4, by omega, by go_num, K4.out.cong fun j hj => rows_five _ x Q c j hj⟩
            case measure => simp [intOf]; omega
          · obtain rfl : c = Q.length := by omega
            go_wp2_with fail
            go_roundw
            case rel => exact ⟨k + 1, s', by omega, by go_num, H2.out.cong fun j _ => by rw [← rows_zero, pairs_take (opN j) HX.out]; simp⟩
            case measure => simp [intOf]; omega
      · obtain rfl : k = P.length := by omega
        obtain ⟨r0, e0, l0⟩ := Tn.add_least OA.out OB.out
        obtain ⟨r1, e1, l1⟩ := Tn.sub_least OA.out OB.out
        obtain ⟨r2, e2, l2⟩ := Tn.and_least OA.out OB.out (and_ok av zm bv zn) (and_bit OA.out OB.out)
        obtain ⟨r3, e3, l3⟩ := Tn.or_least OA.out OB.out (or_ok av zm bv zn) (or_bit OA.out OB.out)
        obtain ⟨r4, e4, l4⟩ := Tn.xor_least OA.out OB.out (Tn.ok_cut _ _) (xor_bit OA.out OB.out)
        obtain ⟨r5, e5, l5⟩ := Tn.join_least OA.out OB.out (Tn.ok_cut _ _) (join_bit OA.out OB.out)
        rw [HP.out, HQ.out] at e0 e1 e2 e3 e4 e5
        have n0 : r0.length < 1000000 := by
          have h := congrArg List.length e0
          rw [pairs_len, List.length_cons] at h
          have := Nat.mul_le_mul hlp hlq
          omega
        obtain ⟨g0, p0, f0, R0⟩ := (H1.out.own 0 (by omega)).form (x := av + bv) (R := r0) (by show Tn.pairs (opN 0) (P.take P.length) Q = _; rw [List.take_length]; exact e0)
        have G0 : Hid (RowB wr g0 ((av + bv) :: r0)) := R0
        have M0 : Hid (Tn.leastM (av + bv) 0#64 r0 = _) := l0
        have d0 := (H1.out.cell 0 (by omega)).1
        rw [f0] at d0
        have D0 : Hid (wr.cell? ⟨B, 0, none⟩ = some (.slice (some ⟨g0, 0, none⟩) (r0.length + 1) p0)) := d0
        clear e0 f0 R0 l0 d0
        have n1 : r1.length < 1000000 := by
          have h := congrArg List.length e1
          rw [pairs_len, List.length_cons] at h
          have := Nat.mul_le_mul hlp hlq
          omega
        obtain ⟨g1, p1, f1, R1⟩ := (H1.out.own 1 (by omega)).form (x := av - bv) (R := r1) (by show Tn.pairs (opN 1) (P.take P.length) Q = _; rw [List.take_length]; exact e1)
        have G1 : Hid (RowB wr g1 ((av - bv) :: r1)) := R1
        have M1 : Hid (Tn.leastM (av - bv) 0#64 r1 = _) := l1
        have d1 := (H1.out.cell 1 (by omega)).1
        rw [f1] at d1
        have D1 : Hid (wr.cell? ⟨B, 1, none⟩ = some (.slice (some ⟨g1, 0, none⟩) (r1.length + 1) p1)) := d1
        clear e1 f1 R1 l1 d1
        have n2 : r2.length < 1000000 := by
          have h := congrArg List.length e2
          rw [pairs_len, List.length_cons] at h
          have := Nat.mul_le_mul hlp hlq
          omega
        obtain ⟨g2, p2, f2, R2⟩ := (H1.out.own 2 (by omega)).form (x := av &&& bv) (R := r2) (by show Tn.pairs (opN 2) (P.take P.length) Q = _; rw [List.take_length]; exact e2)
        have G2 : Hid (RowB wr g2 ((av &&& bv) :: r2)) := R2
        have M2 : Hid (Tn.leastM (av &&& bv) 0#64 r2 = _) := l2
        have d2 := (H1.out.cell 2 (by omega)).1
        rw [f2] at d2
        have D2 : Hid (wr.cell? ⟨B, 2, none⟩ = some (.slice (some ⟨g2, 0, none⟩) (r2.length + 1) p2)) := d2
        clear e2 f2 R2 l2 d2
        have n3 : r3.length < 1000000 := by
          have h := congrArg List.length e3
          rw [pairs_len, List.length_cons] at h
          have := Nat.mul_le_mul hlp hlq
          omega
        obtain ⟨g3, p3, f3, R3⟩ := (H1.out.own 3 (by omega)).form (x := av ||| bv) (R := r3) (by show Tn.pairs (opN 3) (P.take P.length) Q = _; rw [List.take_length]; exact e3)
        have G3 : Hid (RowB wr g3 ((av ||| bv) :: r3)) := R3
        have M3 : Hid (Tn.leastM (av ||| bv) 0#64 r3 = _) := l3
        have d3 := (H1.out.cell 3 (by omega)).1
        rw [f3] at d3
        have D3 : Hid (wr.cell? ⟨B, 3, none⟩ = some (.slice (some ⟨g3, 0, none⟩) (r3.length + 1) p3)) := d3
        clear e3 f3 R3 l3 d3
        have n4 : r4.length < 1000000 := by
          have h := congrArg List.length e4
          rw [pairs_len, List.length_cons] at h
          have := Nat.mul_le_mul hlp hlq
          omega
        obtain ⟨g4, p4, f4, R4⟩ := (H1.out.own 4 (by omega)).form (x := av ^^^ bv) (R := r4) (by show Tn.pairs (opN 4) (P.take P.length) Q = _; rw [List.take_length]; exact e4)
        have G4 : Hid (RowB wr g4 ((av ^^^ bv) :: r4)) := R4
        have M4 : Hid (Tn.leastM (av ^^^ bv) 0#64 r4 = _) := l4
        have d4 := (H1.out.cell 4 (by omega)).1
        rw [f4] at d4
        have D4 : Hid (wr.cell? ⟨B, 4, none⟩ = some (.slice (some ⟨g4, 0, none⟩) (r4.length + 1) p4)) := d4
        clear e4 f4 R4 l4 d4
        have hlen : P.length + Q.length = r5.length + 1 := by
          have h := congrArg List.length e5
          rw [List.length_append, List.length_cons] at h
          exact h
        have n5 : r5.length < 1000000 := by omega
        have M5 : Hid (Tn.leastM av 0#64 r5 = _) := l5
        have E5 : Hid (P ++ Q = av :: r5) := e5
        have HLEN : Hid (P.length + Q.length = r5.length + 1) := hlen
        have hp0 : 0 < P.length := by rw [← HP.out, HLP.out.1]; simp
        have hq0 : 0 < Q.length := by rw [← HQ.out, HLP.out.2]; simp
        have RP : Hid (∀ (q : Nat) (u : Value), (P.map fun x => Value.int .u64 (iv x))[q]? = some u → wr.cell? ((⟨gp, 0, none⟩ : Addr).add q) = some u) := H1.out.rp.news
        have RQ : Hid (RowB wr gq Q) := H1.out.rq
        have TA : Hid (At wr A av zm) := H1.out.ta
        have TB : Hid (At wr (A + 1) bv zn) := H1.out.tb
        have HF : Hid (Gr w wr) := H1.out.gr
        clear e5 l5 hlen H1
        go_upto_region 16 with (first
          | (at_builtin; refine wpList_app _ rfl (.const (.slice none 0 0)) (.tmp 111) 27 rfl wr.heap.size 22 i0 (.int .u64 0) 1 8 Try.underlying27 HI.out.1 HI.out.2.1 HI.out.2.2.1 HI.out.2.2.2 rfl (by decide) (.slice none 0 0) 0 [] rfl (World.ownsRow_nil _ _ _ _) ⟨gp, 0, none⟩ P.length cp (P.map fun x => Value.int .u64 (iv x)) rfl (by simp) RP.out (ones P) hp0 (by unfold maxLen; omega) (by omega) (Nat.le_refl _) wr (Gr.refl wr) (Nat.le_refl _) ?_; intro h1 c1 w1 ho1 hgrow1 hat1 hG1; simp only [Nat.zero_add, List.nil_append] at ho1; simp only [Nat.zero_add])
          | (at_builtin; refine wpList_app _ rfl (.tmp 112) (.tmp 113) 27 rfl wr.heap.size 22 i0 (.int .u64 0) 1 8 Try.underlying27 HI.out.1 HI.out.2.1 HI.out.2.2.1 HI.out.2.2.2 rfl (by decide) (.slice (some ⟨h1, 0, none⟩) P.length c1) P.length _ rfl ho1 ⟨gq, 0, none⟩ Q.length cq (Q.map fun x => Value.int .u64 (iv x)) rfl (by simp) ((RQ.out.gr hG1).news) (ones Q) hq0 (by unfold maxLen; omega) (by omega) hG1.below.size wr hG1 (Nat.le_refl _) ?_; intro h2 c2 w2 ho2 hgrow2 hat2 hG2))
        rw [HLEN.out]
        have O5 : Hid (RowB w2 h2 (av :: r5)) := by
          have o : Owns w2 wr.heap.size (.slice (some ⟨h2, 0, none⟩) (P.length + Q.length) c2) (P ++ Q) := by
            unfold Owns
            simpa using ho2
          rw [← E5.out]
          exact o.row
        have HW : Hid (Gr wr w2) := hG2
        clear ho1 hgrow1 hat1 hG1 ho2 hgrow2 hat2 hG2 RP RQ
        have hne : Nonempty (GrBy w2) := ⟨⟨w2, Gr.refl w2⟩⟩
        have a0 : ∀ p : GrBy w2, p.to.cell? ⟨A, 0, none⟩ = some (.int .u64 (iv av)) := fun p => ((TA.out.gr HW.out).gr p.gr).c0
        have a1 : ∀ p : GrBy w2, p.to.cell? ⟨A, 1, none⟩ = some (.int .u64 (iv zm)) := fun p => ((TA.out.gr HW.out).gr p.gr).c1
        have b0 : ∀ p : GrBy w2, p.to.cell? ⟨A + 1, 0, none⟩ = some (.int .u64 (iv bv)) := fun p => ((TB.out.gr HW.out).gr p.gr).c0
        have b1 : ∀ p : GrBy w2, p.to.cell? ⟨A + 1, 1, none⟩ = some (.int .u64 (iv zn)) := fun p => ((TB.out.gr HW.out).gr p.gr).c1
        have s0 : ∀ p : GrBy w2, p.to.cell? ⟨B, 0, none⟩ = some (.slice (some ⟨g0, 0, none⟩) (r0.length + 1) p0) := fun p => cell_grw p.gr (cell_grw HW.out D0.out)
        have s1 : ∀ p : GrBy w2, p.to.cell? ⟨B, 1, none⟩ = some (.slice (some ⟨g1, 0, none⟩) (r1.length + 1) p1) := fun p => cell_grw p.gr (cell_grw HW.out D1.out)
        have s2 : ∀ p : GrBy w2, p.to.cell? ⟨B, 2, none⟩ = some (.slice (some ⟨g2, 0, none⟩) (r2.length + 1) p2) := fun p => cell_grw p.gr (cell_grw HW.out D2.out)
        have s3 : ∀ p : GrBy w2, p.to.cell? ⟨B, 3, none⟩ = some (.slice (some ⟨g3, 0, none⟩) (r3.length + 1) p3) := fun p => cell_grw p.gr (cell_grw HW.out D3.out)
        have s4 : ∀ p : GrBy w2, p.to.cell? ⟨B, 4, none⟩ = some (.slice (some ⟨g4, 0, none⟩) (r4.length + 1) p4) := fun p => cell_grw p.gr (cell_grw HW.out D4.out)
        obtain ⟨p', hp'⟩ : ∃ p : GrBy w2, p.to = w2 := ⟨⟨w2, Gr.refl w2⟩, rfl⟩
        rw [← hp']
        clear hp'
        try simp only [List.append_eq, List.cons_append, List.nil_append]
        refine wp_region_by (by kernel_rfl) (by kernel_rfl) ?_
        repeat (first
          | go_big_quiet_skip
          | (go_big_quiet_want; go_big_quiet_op; first
            | go_big_quiet_on
            | (apply Exists.intro
               refine ⟨fun p => ?_, ?_⟩
               · first
                 | (go_at_call 12; exact calls_gr (add_any _ _ _ _ _))
                 | (go_at_call 14; exact calls_gr (sub_any _ _ _ _ _))
                 | (go_at_call 15; exact calls_gr (and_any _ _ _ _ _))
                 | (go_at_call 16; exact calls_gr (or_any _ _ _ _ _))
                 | (go_at_call 17; exact calls_gr (xor_any _ _ _ _ _))
                 | (go_at_call 18; exact calls_gr (join_any _ _ _ _ _))
                 | (go_at_call_of 13 p0; exact calls_gr (least_e _ _ _ _ n0 _ _ M0.out _ ((G0.out.gr HW.out).gr p.gr)))
                 | (go_at_call_of 13 p1; exact calls_gr (least_e _ _ _ _ n1 _ _ M1.out _ ((G1.out.gr HW.out).gr p.gr)))
                 | (go_at_call_of 13 p2; exact calls_gr (least_e _ _ _ _ n2 _ _ M2.out _ ((G2.out.gr HW.out).gr p.gr)))
                 | (go_at_call_of 13 p3; exact calls_gr (least_e _ _ _ _ n3 _ _ M3.out _ ((G3.out.gr HW.out).gr p.gr)))
                 | (go_at_call_of 13 p4; exact calls_gr (least_e _ _ _ _ n4 _ _ M4.out _ ((G4.out.gr HW.out).gr p.gr)))
                 | (go_at_call_of 13 c2; exact calls_gr (least_e _ _ _ _ n5 _ _ M5.out _ (O5.out.gr p.gr)))
                 | (go_at_call 19; exact calls_gr (works_any _))
               go_big_quiet_on)))
        refine wpQuiet_nil ?_
        intro _ hw'
        obtain ⟨q, rfl⟩ := hw'
        go_wp2
        go_ret
        exact ⟨rfl, (HF.out.trans HW.out).trans q.gr⟩
end Go.Proofs.Ytkfjjpdcbdbdiaa
