/- Towards the statement InsnBack: its walk. -/
import Derived.Test.YthbmgfnifolcbaaBL
namespace Go.Proofs.Ythbmgfnifolcbaa
open Go.ChangeShapes Go.WideShapes Go.ChangeAt Go.RowKit
open Go.PlainAid (bt get_bt bt_nonneg bt_le bt_end)
set_option linter.unusedVariables false
set_option linter.unusedSimpArgs false
set_option maxRecDepth 100000

set_option maxHeartbeats 16000000 in
/-- The law where the text is not too long; (x, y, z, u, v), er: what is read of it. -/
theorem core_84 (o d s f i o2 d2 s2 f2 i2 x y z u v er : Int) (t : ByteArray) (ht : t.size ≤ 4096) (h0 : 0 ≤ o) (h1 : o ≤ 255) (d0 : 0 ≤ d) (d1 : d ≤ 255) (s0 : 0 ≤ s) (s1 : s ≤ 255) (h20 : 0 ≤ o2) (h21 : o2 ≤ 255) (d20 : 0 ≤ d2) (d21 : d2 ≤ 255) (s20 : 0 ≤ s2) (s21 : s2 ≤ 255)
    (e0 : -32768 ≤ f ∧ f ≤ 32767) (e1 : -2147483648 ≤ i ∧ i ≤ 2147483647) (e2 : -32768 ≤ f2 ∧ f2 ≤ 32767) (e3 : -2147483648 ≤ i2 ∧ i2 ≤ 2147483647) (hz : t.size = 8) (her : er = 0) (hen : encB x y z u v = t) (xr : 0 ≤ x ∧ x ≤ 255) (yr : 0 ≤ y ∧ y ≤ 255) (zr : 0 ≤ z ∧ z ≤ 255) (q0 : o2 = o) (q1 : d2 % 16 = d % 16) (q2 : s2 % 16 = s % 16) (q3 : f2 = f) (q4 : ¬ i = i2) (hp : ∀ w, Calls Try.prog 9 #[.string t] w fun r w' => r = .returned (.tuple #[ins x y z u v, .int .i64 er]) ∧ Below w.heap.size w w') (w : World) :
    Calls Try.prog 5 #[ins o d s f i, ins o2 d2 s2 f2 i2, .string t] w fun e w' => e = .returned (.bool true) ∧ Below w.heap.size w w' := by
  have hd : decide (4096 < (t.size : Int)) = false := by simp; omega
  have m1 : d.tmod 16 = d % 16 := Int.tmod_eq_emod_of_nonneg d0
  have m2 : s.tmod 16 = s % 16 := Int.tmod_eq_emod_of_nonneg s0
  have m3 : d2.tmod 16 = d2 % 16 := Int.tmod_eq_emod_of_nonneg d20
  have m4 : s2.tmod 16 = s2 % 16 := Int.tmod_eq_emod_of_nonneg s20
  obtain ⟨D, hD⟩ : ∃ D, d % 16 = D := ⟨_, rfl⟩
  obtain ⟨S, hS⟩ : ∃ S, s % 16 = S := ⟨_, rfl⟩
  obtain ⟨D2, hD2⟩ : ∃ D2, d2 % 16 = D2 := ⟨_, rfl⟩
  obtain ⟨S2, hS2⟩ : ∃ S2, s2 % 16 = S2 := ⟨_, rfl⟩
  rw [hD] at m1; rw [hS] at m2; rw [hD2] at m3; rw [hS2] at m4
  have D0 : 0 ≤ D ∧ D ≤ 15 := by omega
  have S0 : 0 ≤ S ∧ S ≤ 15 := by omega
  have D20 : 0 ≤ D2 ∧ D2 ≤ 15 := by omega
  have S20 : 0 ≤ S2 ∧ S2 ≤ 15 := by omega
  subst her
  have zz : ((t.size : Int) == 8) = true := by simp [hz]
  cases q0
  have r1 : D2 = D := hD2.symm.trans (q1.trans hD)
  cases r1
  have r2 : S2 = S := hS2.symm.trans (q2.trans hS)
  cases r2
  cases q3
  have n4 : ¬ i = i2 := fun e => q4 (e)
  have r4 : (i == i2) = false := by rw [beq_eq_false_iff_ne]; exact n4
  have hL : ((encB o D S f i).toList == (encB o D S f i2).toList) = false := enc_ne _ _ _ _ _ _ _ _ _ _ ⟨h0, h1⟩ D0 S0 e0 e1 ⟨h20, h21⟩ D20 S20 e2 e3 (fun h => n4 h.2.2.2.2)
  go_enter Try.func5, Try.ntmps5
  go_upto_region 7 with fail
  have HG : Below w.heap.size w ((w.alloc (Obj.cells #[.int .u8 o, .int .u8 D, .int .u8 S, .int .i16 f, .int .i32 i] 24)).alloc (Obj.cells #[.int .u8 o, .int .u8 D, .int .u8 S, .int .i16 f, .int .i32 i2] 24)) := ((Below.refl _ w).alloc (Nat.le_refl _) _).alloc (by simp) _
  have HB : At5 ((w.alloc (Obj.cells #[.int .u8 o, .int .u8 D, .int .u8 S, .int .i16 f, .int .i32 i] 24)).alloc (Obj.cells #[.int .u8 o, .int .u8 D, .int .u8 S, .int .i16 f, .int .i32 i2] 24)) w.heap.size o D S f i := (At5.new w o D S f i).below ((Below.refl _ _).alloc (Nat.le_refl _) _)
  have HJ := At5.new (w.alloc (Obj.cells #[.int .u8 o, .int .u8 D, .int .u8 S, .int .i16 f, .int .i32 i] 24)) o D S f i2
  rw [World.size_alloc] at HJ
  generalize ((w.alloc (Obj.cells #[.int .u8 o, .int .u8 D, .int .u8 S, .int .i16 f, .int .i32 i] 24)).alloc (Obj.cells #[.int .u8 o, .int .u8 D, .int .u8 S, .int .i16 f, .int .i32 i2] 24)) = W at HG HB HJ ⊢
  generalize hB1 : w.heap.size + 1 = B1 at HJ ⊢
  generalize hBs : w.heap.size = B at HB ⊢
  clear hB1 m1 m2 m3 m4 hD hS hD2 hS2
  obtain ⟨c0, c1, c2, c3, c4⟩ := HB.cells
  go_upto_region 8 with (first | (go_at_call 11; refine (gr_below (encode_any _ _ _ _ _ h0 h1 D0.1 (by omega) S0.1 (by omega) _)).mono ?_; rintro r w1 ⟨rfl, hb⟩; replace HG := HG.trans (hb.mono HG.size); replace HB := HB.below hb; replace HJ := HJ.below hb; clear hb) | (go_at_call 9; refine (dec_back _ _ _ _ _ h0 h1 D0.1 D0.2 S0.1 S0.2 e0 e1 _).mono ?_; rintro r w2 ⟨rfl, hb⟩; replace HG := HG.trans (hb.mono HG.size); replace HB := HB.below hb; replace HJ := HJ.below hb; clear hb))
  replace HG : Below w.heap.size w (w2.alloc (Obj.cells #[.int .u8 o, .int .u8 D, .int .u8 S, .int .i16 f, .int .i32 i] 24)) := HG.alloc HG.size _
  replace HB := HB.below ((Below.refl _ w2).alloc (Nat.le_refl _) (Obj.cells #[.int .u8 o, .int .u8 D, .int .u8 S, .int .i16 f, .int .i32 i] 24))
  replace HJ := HJ.below ((Below.refl _ w2).alloc (Nat.le_refl _) (Obj.cells #[.int .u8 o, .int .u8 D, .int .u8 S, .int .i16 f, .int .i32 i] 24))
  have HA := At5.new w2 o D S f i
  generalize w2.alloc (Obj.cells #[.int .u8 o, .int .u8 D, .int .u8 S, .int .i16 f, .int .i32 i] 24) = W2 at HG HB HJ HA ⊢
  generalize w2.heap.size = A2 at HA ⊢
  go_upto_region 9 with (first | (go_at_call 9; refine (hp _).mono ?_; rintro r w3 ⟨rfl, hb⟩; replace HG := HG.trans (hb.mono HG.size); replace HB := HB.below hb; replace HJ := HJ.below hb; replace HA := HA.below hb; clear hb))
  replace HG : Below w.heap.size w (w3.alloc (Obj.cells #[.int .u8 x, .int .u8 y, .int .u8 z, .int .i16 u, .int .i32 v] 24)) := HG.alloc HG.size _
  replace HB := HB.below ((Below.refl _ w3).alloc (Nat.le_refl _) (Obj.cells #[.int .u8 x, .int .u8 y, .int .u8 z, .int .i16 u, .int .i32 v] 24))
  replace HJ := HJ.below ((Below.refl _ w3).alloc (Nat.le_refl _) (Obj.cells #[.int .u8 x, .int .u8 y, .int .u8 z, .int .i16 u, .int .i32 v] 24))
  replace HA := HA.below ((Below.refl _ w3).alloc (Nat.le_refl _) (Obj.cells #[.int .u8 x, .int .u8 y, .int .u8 z, .int .i16 u, .int .i32 v] 24))
  have HX := At5.new w3 x y z u v
  generalize w3.alloc (Obj.cells #[.int .u8 x, .int .u8 y, .int .u8 z, .int .i16 u, .int .i32 v] 24) = W3 at HG HB HJ HA HX ⊢
  generalize w3.heap.size = A3 at HX ⊢
  have hne : Nonempty (GbBy W3) := ⟨⟨W3, Below.refl _ _⟩⟩
  have hbx0 := fun p => (HB.allb p).1
  have hbx1 := fun p => (HB.allb p).2.1
  have hbx2 := fun p => (HB.allb p).2.2.1
  have hbx3 := fun p => (HB.allb p).2.2.2.1
  have hbx4 := fun p => (HB.allb p).2.2.2.2
  have hjx0 := fun p => (HJ.allb p).1
  have hjx1 := fun p => (HJ.allb p).2.1
  have hjx2 := fun p => (HJ.allb p).2.2.1
  have hjx3 := fun p => (HJ.allb p).2.2.2.1
  have hjx4 := fun p => (HJ.allb p).2.2.2.2
  have hax0 := fun p => (HA.allb p).1
  have hax1 := fun p => (HA.allb p).2.1
  have hax2 := fun p => (HA.allb p).2.2.1
  have hax3 := fun p => (HA.allb p).2.2.2.1
  have hax4 := fun p => (HA.allb p).2.2.2.2
  have hxx0 := fun p => (HX.allb p).1
  have hxx1 := fun p => (HX.allb p).2.1
  have hxx2 := fun p => (HX.allb p).2.2.1
  have hxx3 := fun p => (HX.allb p).2.2.2.1
  have hxx4 := fun p => (HX.allb p).2.2.2.2
  have z1 := size_enc o D S f i
  refine wp_region_gb (by kernel_rfl) (by kernel_rfl) ?_
  try simp only [List.append_eq, List.cons_append, List.nil_append]
  repeat (first
    | go_big_quiet_skip
    | (go_big_quiet_want; go_big_quiet_op; first
      | go_big_quiet_on
      | (apply Exists.intro
         refine ⟨fun p => ?_, ?_⟩
         · first
           | (go_at_call_of 11 (Value.int IntKind.u8 D2); exact calls_gb (gr_below (encode_any _ _ _ _ _ h20 h21 (by omega) (by omega) (by omega) (by omega) _)))
           | (go_at_call_of 11 (Value.int IntKind.u8 D); exact calls_gb (gr_below (encode_any _ _ _ _ _ h0 h1 D0.1 (by omega) S0.1 (by omega) _)))
           | (go_at_call_of 11 (Value.int IntKind.u8 x); exact calls_gb (hen ▸ gr_below (encode_any _ _ _ _ _ xr.1 xr.2 yr.1 yr.2 zr.1 zr.2 _)))
           | (go_at_call 8; exact calls_gb (alive_any _))
         go_big_quiet_on)))
  refine wpQuiet_nil ?_
  intro _ hw'
  obtain ⟨⟨wq, hq⟩, rfl⟩ := hw'
  go_wp2
  go_returns
  rw [← hBs]
  exact ⟨rfl, HG.trans (hq.mono HG.size)⟩
set_option maxHeartbeats 16000000 in
/-- The law where the text is not too long; (x, y, z, u, v), er: what is read of it. -/
theorem core_85 (o d s f i o2 d2 s2 f2 i2 x y z u v er : Int) (t : ByteArray) (ht : t.size ≤ 4096) (h0 : 0 ≤ o) (h1 : o ≤ 255) (d0 : 0 ≤ d) (d1 : d ≤ 255) (s0 : 0 ≤ s) (s1 : s ≤ 255) (h20 : 0 ≤ o2) (h21 : o2 ≤ 255) (d20 : 0 ≤ d2) (d21 : d2 ≤ 255) (s20 : 0 ≤ s2) (s21 : s2 ≤ 255)
    (e0 : -32768 ≤ f ∧ f ≤ 32767) (e1 : -2147483648 ≤ i ∧ i ≤ 2147483647) (e2 : -32768 ≤ f2 ∧ f2 ≤ 32767) (e3 : -2147483648 ≤ i2 ∧ i2 ≤ 2147483647) (hz : t.size = 8) (her : er = 0) (hen : encB x y z u v = t) (xr : 0 ≤ x ∧ x ≤ 255) (yr : 0 ≤ y ∧ y ≤ 255) (zr : 0 ≤ z ∧ z ≤ 255) (q0 : o2 = o) (q1 : d2 % 16 = d % 16) (q2 : s2 % 16 = s % 16) (q3 : f2 = f) (q4 : i2 = i) (hp : ∀ w, Calls Try.prog 9 #[.string t] w fun r w' => r = .returned (.tuple #[ins x y z u v, .int .i64 er]) ∧ Below w.heap.size w w') (w : World) :
    Calls Try.prog 5 #[ins o d s f i, ins o2 d2 s2 f2 i2, .string t] w fun e w' => e = .returned (.bool true) ∧ Below w.heap.size w w' := by
  have hd : decide (4096 < (t.size : Int)) = false := by simp; omega
  have m1 : d.tmod 16 = d % 16 := Int.tmod_eq_emod_of_nonneg d0
  have m2 : s.tmod 16 = s % 16 := Int.tmod_eq_emod_of_nonneg s0
  have m3 : d2.tmod 16 = d2 % 16 := Int.tmod_eq_emod_of_nonneg d20
  have m4 : s2.tmod 16 = s2 % 16 := Int.tmod_eq_emod_of_nonneg s20
  obtain ⟨D, hD⟩ : ∃ D, d % 16 = D := ⟨_, rfl⟩
  obtain ⟨S, hS⟩ : ∃ S, s % 16 = S := ⟨_, rfl⟩
  obtain ⟨D2, hD2⟩ : ∃ D2, d2 % 16 = D2 := ⟨_, rfl⟩
  obtain ⟨S2, hS2⟩ : ∃ S2, s2 % 16 = S2 := ⟨_, rfl⟩
  rw [hD] at m1; rw [hS] at m2; rw [hD2] at m3; rw [hS2] at m4
  have D0 : 0 ≤ D ∧ D ≤ 15 := by omega
  have S0 : 0 ≤ S ∧ S ≤ 15 := by omega
  have D20 : 0 ≤ D2 ∧ D2 ≤ 15 := by omega
  have S20 : 0 ≤ S2 ∧ S2 ≤ 15 := by omega
  subst her
  have zz : ((t.size : Int) == 8) = true := by simp [hz]
  cases q0
  have r1 : D2 = D := hD2.symm.trans (q1.trans hD)
  cases r1
  have r2 : S2 = S := hS2.symm.trans (q2.trans hS)
  cases r2
  cases q3
  cases q4
  go_enter Try.func5, Try.ntmps5
  go_upto_region 7 with fail
  have HG : Below w.heap.size w ((w.alloc (Obj.cells #[.int .u8 o, .int .u8 D, .int .u8 S, .int .i16 f, .int .i32 i] 24)).alloc (Obj.cells #[.int .u8 o, .int .u8 D, .int .u8 S, .int .i16 f, .int .i32 i] 24)) := ((Below.refl _ w).alloc (Nat.le_refl _) _).alloc (by simp) _
  have HB : At5 ((w.alloc (Obj.cells #[.int .u8 o, .int .u8 D, .int .u8 S, .int .i16 f, .int .i32 i] 24)).alloc (Obj.cells #[.int .u8 o, .int .u8 D, .int .u8 S, .int .i16 f, .int .i32 i] 24)) w.heap.size o D S f i := (At5.new w o D S f i).below ((Below.refl _ _).alloc (Nat.le_refl _) _)
  have HJ := At5.new (w.alloc (Obj.cells #[.int .u8 o, .int .u8 D, .int .u8 S, .int .i16 f, .int .i32 i] 24)) o D S f i
  rw [World.size_alloc] at HJ
  generalize ((w.alloc (Obj.cells #[.int .u8 o, .int .u8 D, .int .u8 S, .int .i16 f, .int .i32 i] 24)).alloc (Obj.cells #[.int .u8 o, .int .u8 D, .int .u8 S, .int .i16 f, .int .i32 i] 24)) = W at HG HB HJ ⊢
  generalize hB1 : w.heap.size + 1 = B1 at HJ ⊢
  generalize hBs : w.heap.size = B at HB ⊢
  clear hB1 m1 m2 m3 m4 hD hS hD2 hS2
  obtain ⟨c0, c1, c2, c3, c4⟩ := HB.cells
  go_upto_region 8 with (first | (go_at_call 11; refine (gr_below (encode_any _ _ _ _ _ h0 h1 D0.1 (by omega) S0.1 (by omega) _)).mono ?_; rintro r w1 ⟨rfl, hb⟩; replace HG := HG.trans (hb.mono HG.size); replace HB := HB.below hb; replace HJ := HJ.below hb; clear hb) | (go_at_call 9; refine (dec_back _ _ _ _ _ h0 h1 D0.1 D0.2 S0.1 S0.2 e0 e1 _).mono ?_; rintro r w2 ⟨rfl, hb⟩; replace HG := HG.trans (hb.mono HG.size); replace HB := HB.below hb; replace HJ := HJ.below hb; clear hb))
  replace HG : Below w.heap.size w (w2.alloc (Obj.cells #[.int .u8 o, .int .u8 D, .int .u8 S, .int .i16 f, .int .i32 i] 24)) := HG.alloc HG.size _
  replace HB := HB.below ((Below.refl _ w2).alloc (Nat.le_refl _) (Obj.cells #[.int .u8 o, .int .u8 D, .int .u8 S, .int .i16 f, .int .i32 i] 24))
  replace HJ := HJ.below ((Below.refl _ w2).alloc (Nat.le_refl _) (Obj.cells #[.int .u8 o, .int .u8 D, .int .u8 S, .int .i16 f, .int .i32 i] 24))
  have HA := At5.new w2 o D S f i
  generalize w2.alloc (Obj.cells #[.int .u8 o, .int .u8 D, .int .u8 S, .int .i16 f, .int .i32 i] 24) = W2 at HG HB HJ HA ⊢
  generalize w2.heap.size = A2 at HA ⊢
  go_upto_region 9 with (first | (go_at_call 9; refine (hp _).mono ?_; rintro r w3 ⟨rfl, hb⟩; replace HG := HG.trans (hb.mono HG.size); replace HB := HB.below hb; replace HJ := HJ.below hb; replace HA := HA.below hb; clear hb))
  replace HG : Below w.heap.size w (w3.alloc (Obj.cells #[.int .u8 x, .int .u8 y, .int .u8 z, .int .i16 u, .int .i32 v] 24)) := HG.alloc HG.size _
  replace HB := HB.below ((Below.refl _ w3).alloc (Nat.le_refl _) (Obj.cells #[.int .u8 x, .int .u8 y, .int .u8 z, .int .i16 u, .int .i32 v] 24))
  replace HJ := HJ.below ((Below.refl _ w3).alloc (Nat.le_refl _) (Obj.cells #[.int .u8 x, .int .u8 y, .int .u8 z, .int .i16 u, .int .i32 v] 24))
  replace HA := HA.below ((Below.refl _ w3).alloc (Nat.le_refl _) (Obj.cells #[.int .u8 x, .int .u8 y, .int .u8 z, .int .i16 u, .int .i32 v] 24))
  have HX := At5.new w3 x y z u v
  generalize w3.alloc (Obj.cells #[.int .u8 x, .int .u8 y, .int .u8 z, .int .i16 u, .int .i32 v] 24) = W3 at HG HB HJ HA HX ⊢
  generalize w3.heap.size = A3 at HX ⊢
  have hne : Nonempty (GbBy W3) := ⟨⟨W3, Below.refl _ _⟩⟩
  have hbx0 := fun p => (HB.allb p).1
  have hbx1 := fun p => (HB.allb p).2.1
  have hbx2 := fun p => (HB.allb p).2.2.1
  have hbx3 := fun p => (HB.allb p).2.2.2.1
  have hbx4 := fun p => (HB.allb p).2.2.2.2
  have hjx0 := fun p => (HJ.allb p).1
  have hjx1 := fun p => (HJ.allb p).2.1
  have hjx2 := fun p => (HJ.allb p).2.2.1
  have hjx3 := fun p => (HJ.allb p).2.2.2.1
  have hjx4 := fun p => (HJ.allb p).2.2.2.2
  have hax0 := fun p => (HA.allb p).1
  have hax1 := fun p => (HA.allb p).2.1
  have hax2 := fun p => (HA.allb p).2.2.1
  have hax3 := fun p => (HA.allb p).2.2.2.1
  have hax4 := fun p => (HA.allb p).2.2.2.2
  have hxx0 := fun p => (HX.allb p).1
  have hxx1 := fun p => (HX.allb p).2.1
  have hxx2 := fun p => (HX.allb p).2.2.1
  have hxx3 := fun p => (HX.allb p).2.2.2.1
  have hxx4 := fun p => (HX.allb p).2.2.2.2
  have z1 := size_enc o D S f i
  refine wp_region_gb (by kernel_rfl) (by kernel_rfl) ?_
  try simp only [List.append_eq, List.cons_append, List.nil_append]
  repeat (first
    | go_big_quiet_skip
    | (go_big_quiet_want; go_big_quiet_op; first
      | go_big_quiet_on
      | (apply Exists.intro
         refine ⟨fun p => ?_, ?_⟩
         · first
           | (go_at_call_of 11 (Value.int IntKind.u8 D2); exact calls_gb (gr_below (encode_any _ _ _ _ _ h20 h21 (by omega) (by omega) (by omega) (by omega) _)))
           | (go_at_call_of 11 (Value.int IntKind.u8 D); exact calls_gb (gr_below (encode_any _ _ _ _ _ h0 h1 D0.1 (by omega) S0.1 (by omega) _)))
           | (go_at_call_of 11 (Value.int IntKind.u8 x); exact calls_gb (hen ▸ gr_below (encode_any _ _ _ _ _ xr.1 xr.2 yr.1 yr.2 zr.1 zr.2 _)))
           | (go_at_call 8; exact calls_gb (alive_any _))
         go_big_quiet_on)))
  refine wpQuiet_nil ?_
  intro _ hw'
  obtain ⟨⟨wq, hq⟩, rfl⟩ := hw'
  go_wp2
  go_returns
  rw [← hBs]
  exact ⟨rfl, HG.trans (hq.mono HG.size)⟩
set_option maxHeartbeats 16000000 in
/-- The law where the text is not too long; (x, y, z, u, v), er: what is read of it. -/
theorem core_n0 (o d s f i o2 d2 s2 f2 i2 x y z u v er : Int) (t : ByteArray) (ht : t.size ≤ 4096) (h0 : 0 ≤ o) (h1 : o ≤ 255) (d0 : 0 ≤ d) (d1 : d ≤ 255) (s0 : 0 ≤ s) (s1 : s ≤ 255) (h20 : 0 ≤ o2) (h21 : o2 ≤ 255) (d20 : 0 ≤ d2) (d21 : d2 ≤ 255) (s20 : 0 ≤ s2) (s21 : s2 ≤ 255)
    (e0 : -32768 ≤ f ∧ f ≤ 32767) (e1 : -2147483648 ≤ i ∧ i ≤ 2147483647) (e2 : -32768 ≤ f2 ∧ f2 ≤ 32767) (e3 : -2147483648 ≤ i2 ∧ i2 ≤ 2147483647) (hz : ¬ t.size = 8) (her : (er == 0) = false) (q0 : ¬ o = o2) (hp : ∀ w, Calls Try.prog 9 #[.string t] w fun r w' => r = .returned (.tuple #[ins x y z u v, .int .i64 er]) ∧ Below w.heap.size w w') (w : World) :
    Calls Try.prog 5 #[ins o d s f i, ins o2 d2 s2 f2 i2, .string t] w fun e w' => e = .returned (.bool true) ∧ Below w.heap.size w w' := by
  have hd : decide (4096 < (t.size : Int)) = false := by simp; omega
  have m1 : d.tmod 16 = d % 16 := Int.tmod_eq_emod_of_nonneg d0
  have m2 : s.tmod 16 = s % 16 := Int.tmod_eq_emod_of_nonneg s0
  have m3 : d2.tmod 16 = d2 % 16 := Int.tmod_eq_emod_of_nonneg d20
  have m4 : s2.tmod 16 = s2 % 16 := Int.tmod_eq_emod_of_nonneg s20
  obtain ⟨D, hD⟩ : ∃ D, d % 16 = D := ⟨_, rfl⟩
  obtain ⟨S, hS⟩ : ∃ S, s % 16 = S := ⟨_, rfl⟩
  obtain ⟨D2, hD2⟩ : ∃ D2, d2 % 16 = D2 := ⟨_, rfl⟩
  obtain ⟨S2, hS2⟩ : ∃ S2, s2 % 16 = S2 := ⟨_, rfl⟩
  rw [hD] at m1; rw [hS] at m2; rw [hD2] at m3; rw [hS2] at m4
  have D0 : 0 ≤ D ∧ D ≤ 15 := by omega
  have S0 : 0 ≤ S ∧ S ≤ 15 := by omega
  have D20 : 0 ≤ D2 ∧ D2 ≤ 15 := by omega
  have S20 : 0 ≤ S2 ∧ S2 ≤ 15 := by omega
  have her2 : (er != 0) = true := by rw [bne, her]; rfl
  have zz : ((t.size : Int) == 8) = false := by simp; omega
  have n0 : ¬ o = o2 := fun e => q0 (e)
  have r0 : (o == o2) = false := by rw [beq_eq_false_iff_ne]; exact n0
  have hL : ((encB o D S f i).toList == (encB o2 D2 S2 f2 i2).toList) = false := enc_ne _ _ _ _ _ _ _ _ _ _ ⟨h0, h1⟩ D0 S0 e0 e1 ⟨h20, h21⟩ D20 S20 e2 e3 (fun h => n0 h.1)
  go_enter Try.func5, Try.ntmps5
  go_upto_region 7 with fail
  have HG : Below w.heap.size w ((w.alloc (Obj.cells #[.int .u8 o, .int .u8 D, .int .u8 S, .int .i16 f, .int .i32 i] 24)).alloc (Obj.cells #[.int .u8 o2, .int .u8 D2, .int .u8 S2, .int .i16 f2, .int .i32 i2] 24)) := ((Below.refl _ w).alloc (Nat.le_refl _) _).alloc (by simp) _
  have HB : At5 ((w.alloc (Obj.cells #[.int .u8 o, .int .u8 D, .int .u8 S, .int .i16 f, .int .i32 i] 24)).alloc (Obj.cells #[.int .u8 o2, .int .u8 D2, .int .u8 S2, .int .i16 f2, .int .i32 i2] 24)) w.heap.size o D S f i := (At5.new w o D S f i).below ((Below.refl _ _).alloc (Nat.le_refl _) _)
  have HJ := At5.new (w.alloc (Obj.cells #[.int .u8 o, .int .u8 D, .int .u8 S, .int .i16 f, .int .i32 i] 24)) o2 D2 S2 f2 i2
  rw [World.size_alloc] at HJ
  generalize ((w.alloc (Obj.cells #[.int .u8 o, .int .u8 D, .int .u8 S, .int .i16 f, .int .i32 i] 24)).alloc (Obj.cells #[.int .u8 o2, .int .u8 D2, .int .u8 S2, .int .i16 f2, .int .i32 i2] 24)) = W at HG HB HJ ⊢
  generalize hB1 : w.heap.size + 1 = B1 at HJ ⊢
  generalize hBs : w.heap.size = B at HB ⊢
  clear hB1 m1 m2 m3 m4 hD hS hD2 hS2
  obtain ⟨c0, c1, c2, c3, c4⟩ := HB.cells
  go_upto_region 8 with (first | (go_at_call 11; refine (gr_below (encode_any _ _ _ _ _ h0 h1 D0.1 (by omega) S0.1 (by omega) _)).mono ?_; rintro r w1 ⟨rfl, hb⟩; replace HG := HG.trans (hb.mono HG.size); replace HB := HB.below hb; replace HJ := HJ.below hb; clear hb) | (go_at_call 9; refine (dec_back _ _ _ _ _ h0 h1 D0.1 D0.2 S0.1 S0.2 e0 e1 _).mono ?_; rintro r w2 ⟨rfl, hb⟩; replace HG := HG.trans (hb.mono HG.size); replace HB := HB.below hb; replace HJ := HJ.below hb; clear hb))
  replace HG : Below w.heap.size w (w2.alloc (Obj.cells #[.int .u8 o, .int .u8 D, .int .u8 S, .int .i16 f, .int .i32 i] 24)) := HG.alloc HG.size _
  replace HB := HB.below ((Below.refl _ w2).alloc (Nat.le_refl _) (Obj.cells #[.int .u8 o, .int .u8 D, .int .u8 S, .int .i16 f, .int .i32 i] 24))
  replace HJ := HJ.below ((Below.refl _ w2).alloc (Nat.le_refl _) (Obj.cells #[.int .u8 o, .int .u8 D, .int .u8 S, .int .i16 f, .int .i32 i] 24))
  have HA := At5.new w2 o D S f i
  generalize w2.alloc (Obj.cells #[.int .u8 o, .int .u8 D, .int .u8 S, .int .i16 f, .int .i32 i] 24) = W2 at HG HB HJ HA ⊢
  generalize w2.heap.size = A2 at HA ⊢
  go_upto_region 9 with (first | (go_at_call 9; refine (hp _).mono ?_; rintro r w3 ⟨rfl, hb⟩; replace HG := HG.trans (hb.mono HG.size); replace HB := HB.below hb; replace HJ := HJ.below hb; replace HA := HA.below hb; clear hb))
  replace HG : Below w.heap.size w (w3.alloc (Obj.cells #[.int .u8 x, .int .u8 y, .int .u8 z, .int .i16 u, .int .i32 v] 24)) := HG.alloc HG.size _
  replace HB := HB.below ((Below.refl _ w3).alloc (Nat.le_refl _) (Obj.cells #[.int .u8 x, .int .u8 y, .int .u8 z, .int .i16 u, .int .i32 v] 24))
  replace HJ := HJ.below ((Below.refl _ w3).alloc (Nat.le_refl _) (Obj.cells #[.int .u8 x, .int .u8 y, .int .u8 z, .int .i16 u, .int .i32 v] 24))
  replace HA := HA.below ((Below.refl _ w3).alloc (Nat.le_refl _) (Obj.cells #[.int .u8 x, .int .u8 y, .int .u8 z, .int .i16 u, .int .i32 v] 24))
  have HX := At5.new w3 x y z u v
  generalize w3.alloc (Obj.cells #[.int .u8 x, .int .u8 y, .int .u8 z, .int .i16 u, .int .i32 v] 24) = W3 at HG HB HJ HA HX ⊢
  generalize w3.heap.size = A3 at HX ⊢
  have hne : Nonempty (GbBy W3) := ⟨⟨W3, Below.refl _ _⟩⟩
  have hbx0 := fun p => (HB.allb p).1
  have hbx1 := fun p => (HB.allb p).2.1
  have hbx2 := fun p => (HB.allb p).2.2.1
  have hbx3 := fun p => (HB.allb p).2.2.2.1
  have hbx4 := fun p => (HB.allb p).2.2.2.2
  have hjx0 := fun p => (HJ.allb p).1
  have hjx1 := fun p => (HJ.allb p).2.1
  have hjx2 := fun p => (HJ.allb p).2.2.1
  have hjx3 := fun p => (HJ.allb p).2.2.2.1
  have hjx4 := fun p => (HJ.allb p).2.2.2.2
  have hax0 := fun p => (HA.allb p).1
  have hax1 := fun p => (HA.allb p).2.1
  have hax2 := fun p => (HA.allb p).2.2.1
  have hax3 := fun p => (HA.allb p).2.2.2.1
  have hax4 := fun p => (HA.allb p).2.2.2.2
  have hxx0 := fun p => (HX.allb p).1
  have hxx1 := fun p => (HX.allb p).2.1
  have hxx2 := fun p => (HX.allb p).2.2.1
  have hxx3 := fun p => (HX.allb p).2.2.2.1
  have hxx4 := fun p => (HX.allb p).2.2.2.2
  have z1 := size_enc o D S f i
  refine wp_region_gb (by kernel_rfl) (by kernel_rfl) ?_
  try simp only [List.append_eq, List.cons_append, List.nil_append]
  repeat (first
    | go_big_quiet_skip
    | (go_big_quiet_want; go_big_quiet_op; first
      | go_big_quiet_on
      | (apply Exists.intro
         refine ⟨fun p => ?_, ?_⟩
         · first
           | (go_at_call_of 11 (Value.int IntKind.u8 D2); exact calls_gb (gr_below (encode_any _ _ _ _ _ h20 h21 (by omega) (by omega) (by omega) (by omega) _)))
           | (go_at_call_of 11 (Value.int IntKind.u8 D); exact calls_gb (gr_below (encode_any _ _ _ _ _ h0 h1 D0.1 (by omega) S0.1 (by omega) _)))
           | (go_at_call 8; exact calls_gb (alive_any _))
         go_big_quiet_on)))
  refine wpQuiet_nil ?_
  intro _ hw'
  obtain ⟨⟨wq, hq⟩, rfl⟩ := hw'
  go_wp2
  go_returns
  rw [← hBs]
  exact ⟨rfl, HG.trans (hq.mono HG.size)⟩
set_option maxHeartbeats 16000000 in
/-- The law where the text is not too long; (x, y, z, u, v), er: what is read of it. -/
theorem core_n1 (o d s f i o2 d2 s2 f2 i2 x y z u v er : Int) (t : ByteArray) (ht : t.size ≤ 4096) (h0 : 0 ≤ o) (h1 : o ≤ 255) (d0 : 0 ≤ d) (d1 : d ≤ 255) (s0 : 0 ≤ s) (s1 : s ≤ 255) (h20 : 0 ≤ o2) (h21 : o2 ≤ 255) (d20 : 0 ≤ d2) (d21 : d2 ≤ 255) (s20 : 0 ≤ s2) (s21 : s2 ≤ 255)
    (e0 : -32768 ≤ f ∧ f ≤ 32767) (e1 : -2147483648 ≤ i ∧ i ≤ 2147483647) (e2 : -32768 ≤ f2 ∧ f2 ≤ 32767) (e3 : -2147483648 ≤ i2 ∧ i2 ≤ 2147483647) (hz : ¬ t.size = 8) (her : (er == 0) = false) (q0 : o2 = o) (q1 : ¬ d % 16 = d2 % 16) (hp : ∀ w, Calls Try.prog 9 #[.string t] w fun r w' => r = .returned (.tuple #[ins x y z u v, .int .i64 er]) ∧ Below w.heap.size w w') (w : World) :
    Calls Try.prog 5 #[ins o d s f i, ins o2 d2 s2 f2 i2, .string t] w fun e w' => e = .returned (.bool true) ∧ Below w.heap.size w w' := by
  have hd : decide (4096 < (t.size : Int)) = false := by simp; omega
  have m1 : d.tmod 16 = d % 16 := Int.tmod_eq_emod_of_nonneg d0
  have m2 : s.tmod 16 = s % 16 := Int.tmod_eq_emod_of_nonneg s0
  have m3 : d2.tmod 16 = d2 % 16 := Int.tmod_eq_emod_of_nonneg d20
  have m4 : s2.tmod 16 = s2 % 16 := Int.tmod_eq_emod_of_nonneg s20
  obtain ⟨D, hD⟩ : ∃ D, d % 16 = D := ⟨_, rfl⟩
  obtain ⟨S, hS⟩ : ∃ S, s % 16 = S := ⟨_, rfl⟩
  obtain ⟨D2, hD2⟩ : ∃ D2, d2 % 16 = D2 := ⟨_, rfl⟩
  obtain ⟨S2, hS2⟩ : ∃ S2, s2 % 16 = S2 := ⟨_, rfl⟩
  rw [hD] at m1; rw [hS] at m2; rw [hD2] at m3; rw [hS2] at m4
  have D0 : 0 ≤ D ∧ D ≤ 15 := by omega
  have S0 : 0 ≤ S ∧ S ≤ 15 := by omega
  have D20 : 0 ≤ D2 ∧ D2 ≤ 15 := by omega
  have S20 : 0 ≤ S2 ∧ S2 ≤ 15 := by omega
  have her2 : (er != 0) = true := by rw [bne, her]; rfl
  have zz : ((t.size : Int) == 8) = false := by simp; omega
  cases q0
  have n1 : ¬ D = D2 := fun e => q1 (hD.trans (e.trans hD2.symm))
  have r1 : (D == D2) = false := by rw [beq_eq_false_iff_ne]; exact n1
  have hL : ((encB o D S f i).toList == (encB o D2 S2 f2 i2).toList) = false := enc_ne _ _ _ _ _ _ _ _ _ _ ⟨h0, h1⟩ D0 S0 e0 e1 ⟨h20, h21⟩ D20 S20 e2 e3 (fun h => n1 h.2.1)
  go_enter Try.func5, Try.ntmps5
  go_upto_region 7 with fail
  have HG : Below w.heap.size w ((w.alloc (Obj.cells #[.int .u8 o, .int .u8 D, .int .u8 S, .int .i16 f, .int .i32 i] 24)).alloc (Obj.cells #[.int .u8 o, .int .u8 D2, .int .u8 S2, .int .i16 f2, .int .i32 i2] 24)) := ((Below.refl _ w).alloc (Nat.le_refl _) _).alloc (by simp) _
  have HB : At5 ((w.alloc (Obj.cells #[.int .u8 o, .int .u8 D, .int .u8 S, .int .i16 f, .int .i32 i] 24)).alloc (Obj.cells #[.int .u8 o, .int .u8 D2, .int .u8 S2, .int .i16 f2, .int .i32 i2] 24)) w.heap.size o D S f i := (At5.new w o D S f i).below ((Below.refl _ _).alloc (Nat.le_refl _) _)
  have HJ := At5.new (w.alloc (Obj.cells #[.int .u8 o, .int .u8 D, .int .u8 S, .int .i16 f, .int .i32 i] 24)) o D2 S2 f2 i2
  rw [World.size_alloc] at HJ
  generalize ((w.alloc (Obj.cells #[.int .u8 o, .int .u8 D, .int .u8 S, .int .i16 f, .int .i32 i] 24)).alloc (Obj.cells #[.int .u8 o, .int .u8 D2, .int .u8 S2, .int .i16 f2, .int .i32 i2] 24)) = W at HG HB HJ ⊢
  generalize hB1 : w.heap.size + 1 = B1 at HJ ⊢
  generalize hBs : w.heap.size = B at HB ⊢
  clear hB1 m1 m2 m3 m4 hD hS hD2 hS2
  obtain ⟨c0, c1, c2, c3, c4⟩ := HB.cells
  go_upto_region 8 with (first | (go_at_call 11; refine (gr_below (encode_any _ _ _ _ _ h0 h1 D0.1 (by omega) S0.1 (by omega) _)).mono ?_; rintro r w1 ⟨rfl, hb⟩; replace HG := HG.trans (hb.mono HG.size); replace HB := HB.below hb; replace HJ := HJ.below hb; clear hb) | (go_at_call 9; refine (dec_back _ _ _ _ _ h0 h1 D0.1 D0.2 S0.1 S0.2 e0 e1 _).mono ?_; rintro r w2 ⟨rfl, hb⟩; replace HG := HG.trans (hb.mono HG.size); replace HB := HB.below hb; replace HJ := HJ.below hb; clear hb))
  replace HG : Below w.heap.size w (w2.alloc (Obj.cells #[.int .u8 o, .int .u8 D, .int .u8 S, .int .i16 f, .int .i32 i] 24)) := HG.alloc HG.size _
  replace HB := HB.below ((Below.refl _ w2).alloc (Nat.le_refl _) (Obj.cells #[.int .u8 o, .int .u8 D, .int .u8 S, .int .i16 f, .int .i32 i] 24))
  replace HJ := HJ.below ((Below.refl _ w2).alloc (Nat.le_refl _) (Obj.cells #[.int .u8 o, .int .u8 D, .int .u8 S, .int .i16 f, .int .i32 i] 24))
  have HA := At5.new w2 o D S f i
  generalize w2.alloc (Obj.cells #[.int .u8 o, .int .u8 D, .int .u8 S, .int .i16 f, .int .i32 i] 24) = W2 at HG HB HJ HA ⊢
  generalize w2.heap.size = A2 at HA ⊢
  go_upto_region 9 with (first | (go_at_call 9; refine (hp _).mono ?_; rintro r w3 ⟨rfl, hb⟩; replace HG := HG.trans (hb.mono HG.size); replace HB := HB.below hb; replace HJ := HJ.below hb; replace HA := HA.below hb; clear hb))
  replace HG : Below w.heap.size w (w3.alloc (Obj.cells #[.int .u8 x, .int .u8 y, .int .u8 z, .int .i16 u, .int .i32 v] 24)) := HG.alloc HG.size _
  replace HB := HB.below ((Below.refl _ w3).alloc (Nat.le_refl _) (Obj.cells #[.int .u8 x, .int .u8 y, .int .u8 z, .int .i16 u, .int .i32 v] 24))
  replace HJ := HJ.below ((Below.refl _ w3).alloc (Nat.le_refl _) (Obj.cells #[.int .u8 x, .int .u8 y, .int .u8 z, .int .i16 u, .int .i32 v] 24))
  replace HA := HA.below ((Below.refl _ w3).alloc (Nat.le_refl _) (Obj.cells #[.int .u8 x, .int .u8 y, .int .u8 z, .int .i16 u, .int .i32 v] 24))
  have HX := At5.new w3 x y z u v
  generalize w3.alloc (Obj.cells #[.int .u8 x, .int .u8 y, .int .u8 z, .int .i16 u, .int .i32 v] 24) = W3 at HG HB HJ HA HX ⊢
  generalize w3.heap.size = A3 at HX ⊢
  have hne : Nonempty (GbBy W3) := ⟨⟨W3, Below.refl _ _⟩⟩
  have hbx0 := fun p => (HB.allb p).1
  have hbx1 := fun p => (HB.allb p).2.1
  have hbx2 := fun p => (HB.allb p).2.2.1
  have hbx3 := fun p => (HB.allb p).2.2.2.1
  have hbx4 := fun p => (HB.allb p).2.2.2.2
  have hjx0 := fun p => (HJ.allb p).1
  have hjx1 := fun p => (HJ.allb p).2.1
  have hjx2 := fun p => (HJ.allb p).2.2.1
  have hjx3 := fun p => (HJ.allb p).2.2.2.1
  have hjx4 := fun p => (HJ.allb p).2.2.2.2
  have hax0 := fun p => (HA.allb p).1
  have hax1 := fun p => (HA.allb p).2.1
  have hax2 := fun p => (HA.allb p).2.2.1
  have hax3 := fun p => (HA.allb p).2.2.2.1
  have hax4 := fun p => (HA.allb p).2.2.2.2
  have hxx0 := fun p => (HX.allb p).1
  have hxx1 := fun p => (HX.allb p).2.1
  have hxx2 := fun p => (HX.allb p).2.2.1
  have hxx3 := fun p => (HX.allb p).2.2.2.1
  have hxx4 := fun p => (HX.allb p).2.2.2.2
  have z1 := size_enc o D S f i
  refine wp_region_gb (by kernel_rfl) (by kernel_rfl) ?_
  try simp only [List.append_eq, List.cons_append, List.nil_append]
  repeat (first
    | go_big_quiet_skip
    | (go_big_quiet_want; go_big_quiet_op; first
      | go_big_quiet_on
      | (apply Exists.intro
         refine ⟨fun p => ?_, ?_⟩
         · first
           | (go_at_call_of 11 (Value.int IntKind.u8 D2); exact calls_gb (gr_below (encode_any _ _ _ _ _ h20 h21 (by omega) (by omega) (by omega) (by omega) _)))
           | (go_at_call_of 11 (Value.int IntKind.u8 D); exact calls_gb (gr_below (encode_any _ _ _ _ _ h0 h1 D0.1 (by omega) S0.1 (by omega) _)))
           | (go_at_call 8; exact calls_gb (alive_any _))
         go_big_quiet_on)))
  refine wpQuiet_nil ?_
  intro _ hw'
  obtain ⟨⟨wq, hq⟩, rfl⟩ := hw'
  go_wp2
  go_returns
  rw [← hBs]
  exact ⟨rfl, HG.trans (hq.mono HG.size)⟩
end Go.Proofs.Ythbmgfnifolcbaa
