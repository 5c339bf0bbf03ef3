/- Towards the statements of package tnum (layer 3): what TnumSound asks, for every two sets, any numbers of them, any shift. -/
import Derived.Test.YtoomcnjpomdbpaaSoundM
import Derived.Test.YtoomcnjpomdbpaaWorks
import Derived.Test.YtoomcnjpomdbpaaPMul
namespace Go.Proofs.Ytoomcnjpomdbpaa
open Go.ChangeShapes Go.WideShapes Go.ChangeAt Go.RowKit
set_option linter.unusedVariables false
set_option maxRecDepth 20000

theorem has_e (v m x : BitVec 64) (b : Bool) (h : (x &&& ~~~m == v) = b) (w : World) : Calls Try.prog 13 #[.agg #[.int .u64 (iv v), .int .u64 (iv m)], .int .u64 (iv x)] w fun e w' => e = .returned (.bool b) ∧ Gr w w' := by
  subst h
  exact has_gr v m x w
theorem some_e (v m x p : BitVec 64) (h : v ||| x &&& m = p) (w : World) : Calls Try.prog 38 #[.agg #[.int .u64 (iv v), .int .u64 (iv m)], .int .u64 (iv x)] w fun e w' => e = .returned (.int .u64 (iv p)) ∧ Gr w w' := by
  subst h
  exact some_gr v m x w
theorem iv_half (z : BitVec 64) : IntKind.u64.wrap ((iv z).tdiv 2) = iv (z >>> 1) := by
  have hz := iv_bd z
  rw [← iv_shr, IntKind.wrap_u64, Int.tdiv_eq_ediv_of_nonneg hz.1]
  omega
theorem iv_wrap (x : BitVec 64) : IntKind.u64.wrap (iv x) = iv x := by
  have := iv_bd x
  rw [IntKind.wrap_u64]
  omega
theorem rg_lo (l h : BitVec 64) (k : iv l ≤ iv h) : (l &&& ~~~(rgM l h) == rgV l h) = true :=
  range_has l h l (Nat.le_refl _) (by unfold iv at k; omega)
theorem rg_hi (l h : BitVec 64) (k : iv l ≤ iv h) : (h &&& ~~~(rgM l h) == rgV l h) = true :=
  range_has l h h (by unfold iv at k; omega) (Nat.le_refl _)
theorem rg_mid (l h : BitVec 64) (k : iv l ≤ iv h) : ((l + (h - l) >>> 1) &&& ~~~(rgM l h) == rgV l h) = true := by
  have e : (l + (h - l) >>> 1).toNat = l.toNat + (h.toNat - l.toNat) / 2 := by
    have h1 := l.isLt
    have h2 := h.isLt
    unfold iv at k
    rw [BitVec.toNat_add, BitVec.toNat_ushiftRight, BitVec.toNat_sub, Nat.shiftRight_eq_div_pow]
    omega
  exact range_has l h _ (by omega) (by unfold iv at k; omega)
set_option maxHeartbeats 4000000 in
theorem sound_any (v m z n x y : BitVec 64) (s : Nat) (hs : s < 256) (w : World) : Calls Try.prog 5 #[.int .u64 (iv v), .int .u64 (iv m), .int .u64 (iv z), .int .u64 (iv n), .int .u64 (iv x), .int .u64 (iv y), .int .u8 (s : Int)] w fun e w' => e = .returned (.bool true) ∧ Gr w w' := by
  have oa : Tn.Ok (v &&& ~~~m) m := Tn.ok_cut v m
  have ob : Tn.Ok (z &&& ~~~n) n := Tn.ok_cut z n
  obtain ⟨av, ha⟩ : ∃ av, v &&& ~~~m = av := ⟨_, rfl⟩
  obtain ⟨bv, hb⟩ : ∃ bv, z &&& ~~~n = bv := ⟨_, rfl⟩
  rw [ha] at oa
  rw [hb] at ob
  have hp := some_has av m x
  have hq := some_has bv n y
  obtain ⟨p, ep⟩ : ∃ p, av ||| x &&& m = p := ⟨_, rfl⟩
  obtain ⟨q, eq⟩ : ∃ q, bv ||| y &&& n = q := ⟨_, rfl⟩
  rw [ep] at hp
  rw [eq] at hq
  have HG : Gr w w := Gr.refl w
  go_enter Try.func5, Try.ntmps5
  go_wp2_with (first
    | (go_at_call 9; refine (of_gr _ _ _).mono ?_; rintro e w' ⟨rfl, hg⟩; replace HG := HG.trans hg; clear hg))
  clear ha hb
  have HA : Hid (At ((w'.alloc (.cells #[.int .u64 (iv av), .int .u64 (iv m)] 24)).alloc (.cells #[.int .u64 (iv bv), .int .u64 (iv n)] 24)) w'.heap.size av m) := (At.newb w' rfl av m).alloc _
  have HB : Hid (At ((w'.alloc (.cells #[.int .u64 (iv av), .int .u64 (iv m)] 24)).alloc (.cells #[.int .u64 (iv bv), .int .u64 (iv n)] 24)) (w'.heap.size + 1) bv n) := At.newb _ (by simp) bv n
  have HF : Hid (Gr w ((w'.alloc (.cells #[.int .u64 (iv av), .int .u64 (iv m)] 24)).alloc (.cells #[.int .u64 (iv bv), .int .u64 (iv n)] 24))) := (HG.alloc _ _).alloc _ _
  clear HG
  revert HA HB HF
  generalize ((w'.alloc (.cells #[.int .u64 (iv av), .int .u64 (iv m)] 24)).alloc (.cells #[.int .u64 (iv bv), .int .u64 (iv n)] 24)) = W
  intro HA HB HF
  have hne : Nonempty (GrBy W) := ⟨⟨W, Gr.refl W⟩⟩
  have a0 : ∀ p : GrBy W, p.to.cell? ⟨w'.heap.size, 0, none⟩ = some (.int .u64 (iv av)) := fun p => (HA.out.gr p.gr).c0
  have a1 : ∀ p : GrBy W, p.to.cell? ⟨w'.heap.size, 1, none⟩ = some (.int .u64 (iv m)) := fun p => (HA.out.gr p.gr).c1
  have b0 : ∀ p : GrBy W, p.to.cell? ⟨w'.heap.size + 1, 0, none⟩ = some (.int .u64 (iv bv)) := fun p => (HB.out.gr p.gr).c0
  have b1 : ∀ p : GrBy W, p.to.cell? ⟨w'.heap.size + 1, 1, none⟩ = some (.int .u64 (iv n)) := fun p => (HB.out.gr p.gr).c1
  obtain ⟨p', hp'⟩ : ∃ p : GrBy W, p.to = W := ⟨⟨W, Gr.refl W⟩, rfl⟩
  rw [← hp']
  clear hp'
  refine wp_region_by (by kernel_rfl) (by kernel_rfl) ?_
  repeat (first
    | go_big_quiet_skip
    | (go_big_quiet_want; go_big_quiet_op; first
      | go_big_quiet_on
      | (apply Exists.intro
         refine ⟨fun p => ?_, ?_⟩
         · first
           | (go_at_call_of 38 (Value.int IntKind.u64 (iv x)); exact calls_gr (some_e _ _ _ _ ep _))
           | (go_at_call_of 38 (Value.int IntKind.u64 (iv y)); exact calls_gr (some_e _ _ _ _ eq _))
         go_big_quiet_on)))
  refine wpQuiet_nil ?_
  intro _ hw'
  obtain ⟨p1, rfl⟩ := hw'
  clear ep eq
  have k1 := (has_iff oa).2 hp
  have k2 := (has_iff (add_ok av m bv n)).2 (Tn.add_sound oa ob hp hq)
  have k3 := (has_iff (sub_ok av m bv n)).2 (Tn.sub_sound oa ob hp hq)
  have k4 := (has_iff (mul_ok av m bv n)).2 (Tn.mul_sound oa ob hp hq)
  have r1 := iv_add p q
  have r2 := iv_sub p q
  have r3 := iv_mul p q
  go_wp2_with (first
    | (go_at_call 13; refine (has_e _ _ _ _ (by with_reducible assumption) _).mono ?_; rintro e w' ⟨rfl, hg⟩; obtain ⟨q', rfl⟩ := by_of hg; clear hg)
    | (go_at_call 25; refine (add_any _ _ _ _ _).mono ?_; rintro e w' ⟨rfl, hg⟩; obtain ⟨q', rfl⟩ := by_of hg; clear hg)
    | (go_at_call 27; refine (sub_any _ _ _ _ _).mono ?_; rintro e w' ⟨rfl, hg⟩; obtain ⟨q', rfl⟩ := by_of hg; clear hg)
    | (go_at_call 29; refine (mul_any _ _ _ _ (by first | exact oa | exact oz | exact op) _).mono ?_; rintro e w' ⟨rfl, hg⟩; obtain ⟨q', rfl⟩ := by_of hg; clear hg))
  clear r1 r2 r3 k1 k2 k3 k4
  have k1 := (has_iff (and_ok av m bv n)).2 (Tn.and_sound hp hq (and_bit oa ob))
  have k2 := (has_iff (or_ok av m bv n)).2 (Tn.or_sound hp hq (or_bit oa ob))
  have k3 := (has_iff (Tn.ok_cut (av ^^^ bv) (m ||| n))).2 (Tn.xor_sound hp hq (xor_bit oa ob))
  have k4 := (has_iff (Tn.ok_cut av (joinM av m bv n))).2 (Tn.join_left hp (join_bit oa ob))
  have k5 := (has_iff (Tn.ok_cut av (joinM av m bv n))).2 (Tn.join_right hq (join_bit oa ob))
  have r1 := iv_and p q
  have r2 := iv_or p q
  have r3 := iv_xor p q
  go_wp2_with (first
    | (go_at_call 13; refine (has_e _ _ _ _ (by with_reducible assumption) _).mono ?_; rintro e w' ⟨rfl, hg⟩; obtain ⟨q', rfl⟩ := by_of hg; clear hg)
    | (go_at_call 31; refine (and_any _ _ _ _ _).mono ?_; rintro e w' ⟨rfl, hg⟩; obtain ⟨q', rfl⟩ := by_of hg; clear hg)
    | (go_at_call 32; refine (or_any _ _ _ _ _).mono ?_; rintro e w' ⟨rfl, hg⟩; obtain ⟨q', rfl⟩ := by_of hg; clear hg)
    | (go_at_call 33; refine (xor_any _ _ _ _ _).mono ?_; rintro e w' ⟨rfl, hg⟩; obtain ⟨q', rfl⟩ := by_of hg; clear hg)
    | (go_at_call 20; refine (join_any _ _ _ _ _).mono ?_; rintro e w' ⟨rfl, hg⟩; obtain ⟨q', rfl⟩ := by_of hg; clear hg))
  clear r1 r2 r3 k1 k2 k3 k4 k5
  have k1 := (has_iff (shl_ok oa s)).2 (shl_has hp s)
  have k2 := (has_iff (shr_ok oa s)).2 (shr_has hp s)
  have k3 := (has_iff (sar_ok oa s)).2 (sar_has hp s)
  have r1 := iv_shl64 p s
  have r2 := iv_shr64 p s
  have r3 := iv_sar64 p s
  have c1 := iv_shl1 s
  have c2 := iv_sub1 (1#64 <<< s)
  have c3 := iv_and p (1#64 <<< s - 1#64)
  have kl : (decide ((s : Int) < 64) = true ∧ ((p &&& (1#64 <<< s - 1#64)) &&& ~~~(m &&& (1#64 <<< s - 1#64)) == av &&& (1#64 <<< s - 1#64)) = true) ∨ (decide ((s : Int) < 64) = false ∧ (p &&& ~~~(m &&& (1#64 <<< s - 1#64)) == av &&& (1#64 <<< s - 1#64)) = true) := by
    have h := (has_iff (low_ok oa (1#64 <<< s - 1#64))).2 (low_has hp (1#64 <<< s - 1#64))
    rcases Nat.lt_or_ge s 64 with h64 | h64
    · exact Or.inl ⟨decide_eq_true (by omega), h⟩
    · rw [low_all p s h64] at h
      exact Or.inr ⟨decide_eq_false (by omega), h⟩
  rcases kl with ⟨hd, kl⟩ | ⟨hd, kl⟩
  all_goals
    go_wp2_with (first
    | (go_at_call 13; refine (has_e _ _ _ _ (by with_reducible assumption) _).mono ?_; rintro e w' ⟨rfl, hg⟩; obtain ⟨q', rfl⟩ := by_of hg; clear hg)
    | (go_at_call 34; refine (shl_any _ _ _ _).mono ?_; rintro e w' ⟨rfl, hg⟩; obtain ⟨q', rfl⟩ := by_of hg; clear hg)
    | (go_at_call 36; refine (shr_any _ _ _ _).mono ?_; rintro e w' ⟨rfl, hg⟩; obtain ⟨q', rfl⟩ := by_of hg; clear hg)
    | (go_at_call 37; refine (sar_any _ _ _ _).mono ?_; rintro e w' ⟨rfl, hg⟩; obtain ⟨q', rfl⟩ := by_of hg; clear hg)
    | (go_at_call 22; refine (low_any _ _ _ _).mono ?_; rintro e w' ⟨rfl, hg⟩; obtain ⟨q', rfl⟩ := by_of hg; clear hg))
    clear r1 r2 r3 k1 k2 k3 c1 c2 c3 kl hd
    refine (meet_any _ _ _ _ _).mono ?_
    rintro e w1 ⟨rfl, g1⟩
    have G1 : Gr W w1 := q'.gr.trans g1
    have bc0 := ((HB.out.gr G1).alloc (.cells #[.int .u64 (iv (mtV av m bv n)), .int .u64 (iv (mtM av m bv n))] 24)).c0
    have bc1 := ((HB.out.gr G1).alloc (.cells #[.int .u64 (iv (mtV av m bv n)), .int .u64 (iv (mtM av m bv n))] 24)).c1
    have HB2 : Hid (At (w1.alloc (.cells #[.int .u64 (iv (mtV av m bv n)), .int .u64 (iv (mtM av m bv n))] 24)) (w'.heap.size + 1) bv n) := (HB.out.gr G1).alloc _
    have HT2 : Hid (At (w1.alloc (.cells #[.int .u64 (iv (mtV av m bv n)), .int .u64 (iv (mtM av m bv n))] 24)) w1.heap.size (mtV av m bv n) (mtM av m bv n)) := At.newb w1 rfl _ _
    have HF2 : Hid (Gr w (w1.alloc (.cells #[.int .u64 (iv (mtV av m bv n)), .int .u64 (iv (mtM av m bv n))] 24))) := (HF.out.trans G1).alloc _ _
    clear G1 g1 a0 a1 b0 b1 HA HB HF
    have hx : (meetX av m bv n = true ∧ (p &&& ~~~n == bv) = true ∧ (p &&& ~~~(mtM av m bv n) == mtV av m bv n) = true) ∨ (meetX av m bv n = true ∧ (p &&& ~~~n == bv) = false ∧ (p &&& ~~~(mtM av m bv n) == mtV av m bv n) = false) ∨ (meetX av m bv n = false ∧ (p &&& ~~~n == bv) = false ∧ True) := by
      cases hx : meetX av m bv n
      · exact Or.inr (Or.inr ⟨rfl, meet_no_has oa ob hp hx, trivial⟩)
      · have h := meet_has oa ob hp hx
        cases hk : (p &&& ~~~n == bv)
        · exact Or.inr (Or.inl ⟨rfl, rfl, h.trans hk⟩)
        · exact Or.inl ⟨rfl, rfl, h.trans hk⟩
    have htri : iv y < iv x ∨ iv x < iv y ∨ x = y := by
      rcases Int.lt_trichotomy (iv y) (iv x) with h | h | h
      · exact Or.inl h
      · exact Or.inr (Or.inr (iv_inj h.symm))
      · exact Or.inr (Or.inl h)
    rcases hx with ⟨hx, k1, k2⟩ | ⟨hx, k1, k2⟩ | ⟨hx, k1, k2⟩
  all_goals
    rw [hx]
    go_wp2_with fail
    revert HB2 HT2 HF2
    generalize w1.alloc (.cells #[.int .u64 (iv (mtV av m bv n)), .int .u64 (iv (mtM av m bv n))] 24) = W2
    intro HB2 HT2 HF2
    have hne2 : Nonempty (GrBy W2) := ⟨⟨W2, Gr.refl W2⟩⟩
    clear bc0 bc1
    have b0 : ∀ p : GrBy W2, p.to.cell? ⟨w'.heap.size + 1, 0, none⟩ = some (.int .u64 (iv bv)) := fun p => (HB2.out.gr p.gr).c0
    have b1 : ∀ p : GrBy W2, p.to.cell? ⟨w'.heap.size + 1, 1, none⟩ = some (.int .u64 (iv n)) := fun p => (HB2.out.gr p.gr).c1
    have t0 : ∀ p : GrBy W2, p.to.cell? ⟨w1.heap.size, 0, none⟩ = some (.int .u64 (iv (mtV av m bv n))) := fun p => (HT2.out.gr p.gr).c0
    have t1 : ∀ p : GrBy W2, p.to.cell? ⟨w1.heap.size, 1, none⟩ = some (.int .u64 (iv (mtM av m bv n))) := fun p => (HT2.out.gr p.gr).c1
    obtain ⟨p2, hp2⟩ : ∃ p : GrBy W2, p.to = W2 := ⟨⟨W2, Gr.refl W2⟩, rfl⟩
    rw [← hp2]
    clear hp2
    have rh := @iv_half
    have rs1 := iv_sub x y
    have rs2 := iv_sub y x
    have ra := @iv_add
    rcases htri with h1 | h1 | h1
    · go_wp2_with (first
        | (go_at_call 13; refine (has_e _ _ _ _ (by with_reducible assumption) _).mono ?_; rintro e w' ⟨rfl, hg⟩; obtain ⟨q', rfl⟩ := by_of hg; clear hg)
    )
      refine (range_any _ _ _).mono ?_
      rintro e w2 ⟨rfl, g2⟩
      have HR : Hid (At (w2.alloc (.cells #[.int .u64 (iv (rgV y x)), .int .u64 (iv (rgM y x))] 24)) w2.heap.size (rgV y x) (rgM y x)) := At.newb w2 rfl _ _
      have HF3 : Hid (Gr w (w2.alloc (.cells #[.int .u64 (iv (rgV y x)), .int .u64 (iv (rgM y x))] 24))) := ((HF2.out.trans q'.gr).trans g2).alloc _ _
      have rc0 := HR.out.c0
      have rc1 := HR.out.c1
      clear HF2 HB2 HT2 b0 b1 t0 t1 g2 k1 k2 hx
      go_wp2_with fail
      revert HR HF3
      generalize w2.alloc (.cells #[.int .u64 (iv (rgV y x)), .int .u64 (iv (rgM y x))] 24) = W3
      intro HR HF3
      clear rc0 rc1
      have hne3 : Nonempty (GrBy W3) := ⟨⟨W3, Gr.refl W3⟩⟩
      have r0 : ∀ p : GrBy W3, p.to.cell? ⟨w2.heap.size, 0, none⟩ = some (.int .u64 (iv (rgV y x))) := fun p => (HR.out.gr p.gr).c0
      have r1 : ∀ p : GrBy W3, p.to.cell? ⟨w2.heap.size, 1, none⟩ = some (.int .u64 (iv (rgM y x))) := fun p => (HR.out.gr p.gr).c1
      have g1 := rg_lo y x (by omega)
      have g2 := rg_hi y x (by omega)
      have g3 := rg_mid y x (by omega)
      obtain ⟨p3, hp3⟩ : ∃ p : GrBy W3, p.to = W3 := ⟨⟨W3, Gr.refl W3⟩, rfl⟩
      rw [← hp3]
      clear hp3
      go_wp2_with (first
        | (go_at_call 13; refine (has_e _ _ _ _ (by with_reducible assumption) _).mono ?_; rintro e w' ⟨rfl, hg⟩; obtain ⟨q', rfl⟩ := by_of hg; clear hg)
        | (go_at_call 24; refine (works_any _).mono ?_; rintro e w' ⟨rfl, hg⟩; obtain ⟨q', rfl⟩ := by_of hg; clear hg))
      go_ret
      exact ⟨rfl, HF3.out.trans q'.gr⟩
    · go_wp2_with (first
        | (go_at_call 13; refine (has_e _ _ _ _ (by with_reducible assumption) _).mono ?_; rintro e w' ⟨rfl, hg⟩; obtain ⟨q', rfl⟩ := by_of hg; clear hg)
    )
      refine (range_any _ _ _).mono ?_
      rintro e w2 ⟨rfl, g2⟩
      have HR : Hid (At (w2.alloc (.cells #[.int .u64 (iv (rgV x y)), .int .u64 (iv (rgM x y))] 24)) w2.heap.size (rgV x y) (rgM x y)) := At.newb w2 rfl _ _
      have HF3 : Hid (Gr w (w2.alloc (.cells #[.int .u64 (iv (rgV x y)), .int .u64 (iv (rgM x y))] 24))) := ((HF2.out.trans q'.gr).trans g2).alloc _ _
      have rc0 := HR.out.c0
      have rc1 := HR.out.c1
      clear HF2 HB2 HT2 b0 b1 t0 t1 g2 k1 k2 hx
      go_wp2_with fail
      revert HR HF3
      generalize w2.alloc (.cells #[.int .u64 (iv (rgV x y)), .int .u64 (iv (rgM x y))] 24) = W3
      intro HR HF3
      clear rc0 rc1
      have hne3 : Nonempty (GrBy W3) := ⟨⟨W3, Gr.refl W3⟩⟩
      have r0 : ∀ p : GrBy W3, p.to.cell? ⟨w2.heap.size, 0, none⟩ = some (.int .u64 (iv (rgV x y))) := fun p => (HR.out.gr p.gr).c0
      have r1 : ∀ p : GrBy W3, p.to.cell? ⟨w2.heap.size, 1, none⟩ = some (.int .u64 (iv (rgM x y))) := fun p => (HR.out.gr p.gr).c1
      have g1 := rg_lo x y (by omega)
      have g2 := rg_hi x y (by omega)
      have g3 := rg_mid x y (by omega)
      obtain ⟨p3, hp3⟩ : ∃ p : GrBy W3, p.to = W3 := ⟨⟨W3, Gr.refl W3⟩, rfl⟩
      rw [← hp3]
      clear hp3
      go_wp2_with (first
        | (go_at_call 13; refine (has_e _ _ _ _ (by with_reducible assumption) _).mono ?_; rintro e w' ⟨rfl, hg⟩; obtain ⟨q', rfl⟩ := by_of hg; clear hg)
        | (go_at_call 24; refine (works_any _).mono ?_; rintro e w' ⟨rfl, hg⟩; obtain ⟨q', rfl⟩ := by_of hg; clear hg))
      go_ret
      exact ⟨rfl, HF3.out.trans q'.gr⟩
    · subst h1
      have rw0 := iv_wrap x
      go_wp2_with (first
        | (go_at_call 13; refine (has_e _ _ _ _ (by with_reducible assumption) _).mono ?_; rintro e w' ⟨rfl, hg⟩; obtain ⟨q', rfl⟩ := by_of hg; clear hg)
    )
      refine (range_any _ _ _).mono ?_
      rintro e w2 ⟨rfl, g2⟩
      have HR : Hid (At (w2.alloc (.cells #[.int .u64 (iv (rgV x x)), .int .u64 (iv (rgM x x))] 24)) w2.heap.size (rgV x x) (rgM x x)) := At.newb w2 rfl _ _
      have HF3 : Hid (Gr w (w2.alloc (.cells #[.int .u64 (iv (rgV x x)), .int .u64 (iv (rgM x x))] 24))) := ((HF2.out.trans q'.gr).trans g2).alloc _ _
      have rc0 := HR.out.c0
      have rc1 := HR.out.c1
      clear HF2 HB2 HT2 b0 b1 t0 t1 g2 k1 k2 hx
      go_wp2_with fail
      revert HR HF3
      generalize w2.alloc (.cells #[.int .u64 (iv (rgV x x)), .int .u64 (iv (rgM x x))] 24) = W3
      intro HR HF3
      clear rc0 rc1
      have hne3 : Nonempty (GrBy W3) := ⟨⟨W3, Gr.refl W3⟩⟩
      have r0 : ∀ p : GrBy W3, p.to.cell? ⟨w2.heap.size, 0, none⟩ = some (.int .u64 (iv (rgV x x))) := fun p => (HR.out.gr p.gr).c0
      have r1 : ∀ p : GrBy W3, p.to.cell? ⟨w2.heap.size, 1, none⟩ = some (.int .u64 (iv (rgM x x))) := fun p => (HR.out.gr p.gr).c1
      have g1 := rg_lo x x (by omega)
      have g2 := rg_hi x x (by omega)
      have g3 := rg_mid x x (by omega)
      obtain ⟨p3, hp3⟩ : ∃ p : GrBy W3, p.to = W3 := ⟨⟨W3, Gr.refl W3⟩, rfl⟩
      rw [← hp3]
      clear hp3
      go_wp2_with (first
        | (go_at_call 13; refine (has_e _ _ _ _ (by with_reducible assumption) _).mono ?_; rintro e w' ⟨rfl, hg⟩; obtain ⟨q', rfl⟩ := by_of hg; clear hg)
        | (go_at_call 24; refine (works_any _).mono ?_; rintro e w' ⟨rfl, hg⟩; obtain ⟨q', rfl⟩ := by_of hg; clear hg))
      go_ret
      exact ⟨rfl, HF3.out.trans q'.gr⟩
end Go.Proofs.Ytoomcnjpomdbpaa
