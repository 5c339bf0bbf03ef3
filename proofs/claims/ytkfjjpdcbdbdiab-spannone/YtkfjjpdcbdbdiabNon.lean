/- Towards the statements of package span (layer 4): what SpanNone asks, for any span and any reach without numbers, any span, any reach, any shift. -/
import Derived.Test.YtkfjjpdcbdbdiabMeet
import Derived.Test.YtkfjjpdcbdbdiabDiv
import Derived.Test.YtkfjjpdcbdbdiabWorks
import Derived.Deep.DeepCutAuto
namespace Go.Proofs.Ytkfjjpdcbdbdiab
open Go.ChangeShapes Go.WideShapes Go.ChangeAt Go.RowKit
set_option linter.unusedVariables false
set_option maxRecDepth 20000

theorem add_n (al ah bl bh : Int) (h1 : InU al) (h2 : InU ah) (h3 : InU bl) (h4 : InU bh) (z : decide (ah < al) = true) (w : World) : Calls Try.prog 6 #[.agg #[.int .u64 al, .int .u64 ah], .agg #[.int .u64 bl, .int .u64 bh]] w fun e w' => e = .returned (.agg #[.int .u64 1, .int .u64 0]) ∧ Gr w w' := by
  have h := add_any al ah bl bh h1 h2 h3 h4 w
  rw [z, Bool.true_or] at h
  exact h
theorem sub_n (al ah bl bh : Int) (h1 : InU al) (h2 : InU ah) (h3 : InU bl) (h4 : InU bh) (z : decide (bh < bl) = true) (w : World) : Calls Try.prog 7 #[.agg #[.int .u64 al, .int .u64 ah], .agg #[.int .u64 bl, .int .u64 bh]] w fun e w' => e = .returned (.agg #[.int .u64 1, .int .u64 0]) ∧ Gr w w' := by
  have h := sub_any al ah bl bh h1 h2 h3 h4 w
  rw [z, Bool.or_true] at h
  exact h
theorem mul_n (al ah bl bh : Int) (h1 : InU al) (h2 : InU ah) (h3 : InU bl) (h4 : InU bh) (z : decide (ah < al) = true) (w : World) : Calls Try.prog 8 #[.agg #[.int .u64 al, .int .u64 ah], .agg #[.int .u64 bl, .int .u64 bh]] w fun e w' => e = .returned (.agg #[.int .u64 1, .int .u64 0]) ∧ Gr w w' := by
  have h := mul_any al ah bl bh h1 h2 h3 h4 w
  rw [z, Bool.true_or] at h
  exact h
theorem div_n (al ah bl bh : Int) (h1 : InU al) (h2 : InU ah) (h3 : InU bl) (h4 : InU bh) (z : decide (bh < bl) = true) (w : World) : Calls Try.prog 9 #[.agg #[.int .u64 al, .int .u64 ah], .agg #[.int .u64 bl, .int .u64 bh]] w fun e w' => e = .returned (.agg #[.int .u64 1, .int .u64 0]) ∧ Gr w w' := by
  have h := div_any al ah bl bh h1 h2 h3 h4 w
  rw [z, Bool.or_true] at h
  exact h
theorem mod_n (al ah bl bh : Int) (h1 : InU al) (h2 : InU ah) (h3 : InU bl) (h4 : InU bh) (z : decide (ah < al) = true) (w : World) : Calls Try.prog 10 #[.agg #[.int .u64 al, .int .u64 ah], .agg #[.int .u64 bl, .int .u64 bh]] w fun e w' => e = .returned (.agg #[.int .u64 1, .int .u64 0]) ∧ Gr w w' := by
  have h := mod_any al ah bl bh h1 h2 h3 h4 w
  rw [z, Bool.true_or] at h
  exact h
theorem plus_n (al ah bl bh : Int) (h1 : InS al) (h2 : InS ah) (h3 : InS bl) (h4 : InS bh) (z : decide (bh < bl) = true) (w : World) : Calls Try.prog 16 #[.agg #[.int .i64 al, .int .i64 ah], .agg #[.int .i64 bl, .int .i64 bh]] w fun e w' => e = .returned (.agg #[.int .i64 1, .int .i64 0]) ∧ Gr w w' := by
  have h := plus_any al ah bl bh h1 h2 h3 h4 w
  rw [z, Bool.or_true] at h
  exact h
theorem minus_n (al ah bl bh : Int) (h1 : InS al) (h2 : InS ah) (h3 : InS bl) (h4 : InS bh) (z : decide (ah < al) = true) (w : World) : Calls Try.prog 17 #[.agg #[.int .i64 al, .int .i64 ah], .agg #[.int .i64 bl, .int .i64 bh]] w fun e w' => e = .returned (.agg #[.int .i64 1, .int .i64 0]) ∧ Gr w w' := by
  have h := minus_any al ah bl bh h1 h2 h3 h4 w
  rw [z, Bool.true_or] at h
  exact h
theorem shl_n (al ah : Int) (h1 : InU al) (h2 : InU ah) (n : Nat) (z : decide (ah < al) = true) (w : World) : Calls Try.prog 11 #[.agg #[.int .u64 al, .int .u64 ah], .int .u64 (n : Int)] w fun e w' => e = .returned (.agg #[.int .u64 1, .int .u64 0]) ∧ Gr w w' := by
  have h := shl_any al ah h1 h2 n w
  rw [z] at h
  exact h
theorem shr_n (al ah : Int) (h1 : InU al) (h2 : InU ah) (n : Nat) (z : decide (ah < al) = true) (w : World) : Calls Try.prog 12 #[.agg #[.int .u64 al, .int .u64 ah], .int .u64 (n : Int)] w fun e w' => e = .returned (.agg #[.int .u64 1, .int .u64 0]) ∧ Gr w w' := by
  have h := shr_any al ah h1 h2 n w
  rw [z] at h
  exact h
theorem sar_n (al ah : Int) (h1 : InS al) (h2 : InS ah) (n : Nat) (z : decide (ah < al) = true) (w : World) : Calls Try.prog 18 #[.agg #[.int .i64 al, .int .i64 ah], .int .u64 (n : Int)] w fun e w' => e = .returned (.agg #[.int .i64 1, .int .i64 0]) ∧ Gr w w' := by
  have h := sar_any al ah h1 h2 n w
  rw [z] at h
  exact h
theorem meet_n (al ah bl bh : Int) (z : decide (ah < al) = true) (w : World) : Calls Try.prog 13 #[.agg #[.int .u64 al, .int .u64 ah], .agg #[.int .u64 bl, .int .u64 bh]] w fun e w' => e = .returned (.agg #[.int .u64 1, .int .u64 0]) ∧ Gr w w' := by
  have h := meet_u al ah bl bh w
  have z' := of_decide_eq_true z
  rw [decide_eq_true (show min ah bh < max al bl by omega)] at h
  exact h
theorem cut_n (al ah bl bh : Int) (z : decide (bh < bl) = true) (w : World) : Calls Try.prog 19 #[.agg #[.int .i64 al, .int .i64 ah], .agg #[.int .i64 bl, .int .i64 bh]] w fun e w' => e = .returned (.agg #[.int .i64 1, .int .i64 0]) ∧ Gr w w' := by
  have h := meet_s al ah bl bh w
  have z' := of_decide_eq_true z
  rw [decide_eq_true (show min ah bh < max al bl by omega)] at h
  exact h
theorem bare_n (al ah : Int) (z : decide (ah < al) = true) (w : World) : Calls Try.prog 14 #[.agg #[.int .i64 al, .int .i64 ah]] w fun e w' => e = .returned (.agg #[.int .u64 1, .int .u64 0]) ∧ Gr w w' := by
  have h := bare_any al ah w
  rw [z] at h
  exact h
theorem sign_n (al ah : Int) (z : decide (ah < al) = true) (w : World) : Calls Try.prog 20 #[.agg #[.int .u64 al, .int .u64 ah]] w fun e w' => e = .returned (.agg #[.int .i64 1, .int .i64 0]) ∧ Gr w w' := by
  have h := sign_any al ah w
  rw [z] at h
  exact h
theorem none_e (l h : Int) (b : Bool) (hb : decide (h < l) = b) (w : World) : Calls Try.prog 15 #[.agg #[.int .u64 l, .int .u64 h]] w fun e w' => e = .returned (.bool b) ∧ Gr w w' := by
  subst hb
  exact (none_u l h w).mono fun e w' ⟨he, hw⟩ => ⟨he, hw ▸ ⟨by go_grown, by go_grown⟩⟩
theorem nil_e (l h : Int) (b : Bool) (hb : decide (h < l) = b) (w : World) : Calls Try.prog 21 #[.agg #[.int .i64 l, .int .i64 h]] w fun e w' => e = .returned (.bool b) ∧ Gr w w' := by
  subst hb
  exact (none_s l h w).mono fun e w' ⟨he, hw⟩ => ⟨he, hw ▸ ⟨by go_grown, by go_grown⟩⟩
theorem join_n (al ah bl bh l h : Int) (z : decide (ah < al) = true) (k : (decide (bh < bl) = true ∧ 1 = l ∧ 0 = h) ∨ (decide (bh < bl) = false ∧ bl = l ∧ bh = h)) (w : World) : Calls Try.prog 22 #[.agg #[.int .u64 al, .int .u64 ah], .agg #[.int .u64 bl, .int .u64 bh]] w fun e w' => e = .returned (.agg #[.int .u64 l, .int .u64 h]) ∧ Gr w w' := by
  have q := join_u al ah bl bh w
  rcases k with ⟨k, rfl, rfl⟩ | ⟨k, rfl, rfl⟩
  · rw [k, z] at q
    exact q
  · rw [k, z] at q
    exact q
theorem both_n (cl ch dl dh l h : Int) (z : decide (dh < dl) = true) (k : (decide (ch < cl) = true ∧ 1 = l ∧ 0 = h) ∨ (decide (ch < cl) = false ∧ cl = l ∧ ch = h)) (w : World) : Calls Try.prog 23 #[.agg #[.int .i64 cl, .int .i64 ch], .agg #[.int .i64 dl, .int .i64 dh]] w fun e w' => e = .returned (.agg #[.int .i64 l, .int .i64 h]) ∧ Gr w w' := by
  have q := join_s cl ch dl dh w
  rcases k with ⟨k, rfl, rfl⟩ | ⟨k, rfl, rfl⟩
  · rw [k, z] at q
    exact q
  · rw [k, z] at q
    exact q
theorem in_n (al ah bl bh : Int) (z : decide (ah < al) = true) (w : World) : Calls Try.prog 24 #[.agg #[.int .u64 al, .int .u64 ah], .agg #[.int .u64 bl, .int .u64 bh]] w fun e w' => e = .returned (.bool true) ∧ Gr w w' := by
  go_enter Try.func24, Try.ntmps24
  go_wp2_with (first
    | (go_at_call 15; refine (none_u _ _ _).mono ?_; rintro e w' ⟨rfl, hw⟩; subst hw))
  go_ret
  exact ⟨by simp, by go_grown, by go_grown⟩
theorem none_10 (w : World) : Calls Try.prog 15 #[.agg #[.int .u64 1, .int .u64 0]] w fun e w' => e = .returned (.bool true) ∧ Gr w w' :=
  (none_u 1 0 w).mono fun e w' ⟨he, hw⟩ => ⟨he, hw ▸ ⟨by go_grown, by go_grown⟩⟩
theorem nil_10 (w : World) : Calls Try.prog 21 #[.agg #[.int .i64 1, .int .i64 0]] w fun e w' => e = .returned (.bool true) ∧ Gr w w' :=
  (none_s 1 0 w).mono fun e w' ⟨he, hw⟩ => ⟨he, hw ▸ ⟨by go_grown, by go_grown⟩⟩
theorem cell_at {w : World} {b i : Nat} {c : Array Value} {t : TypeId} {v : Value} (h : w.heap[b]? = some (.cells c t)) (hv : c[i]? = some v) : w.cell? ⟨b, i, none⟩ = some v := by
  simp [World.cell?, h, hv]
theorem Hid_gr {w W w' : World} {b : Nat} {x y : Value} {t : TypeId} (h : Hid (At W b x y t)) (g : Gr w w') (e : w = W ∨ w = W.drew := by first | exact Or.inl rfl | exact Or.inr rfl) : Hid (At w' b x y t) := by
  rcases e with rfl | rfl
  · exact h.out.gr g
  · exact At.gr (At.drew h.out) g
theorem Hid_tr {v w W w' : World} (h : Hid (Gr v W)) (g : Gr w w') (e : w = W ∨ w = W.drew := by first | exact Or.inl rfl | exact Or.inr rfl) : Hid (Gr v w') := by
  rcases e with rfl | rfl
  · exact h.out.trans g
  · exact h.out.drew.trans g
set_option maxHeartbeats 16000000 in
theorem nones_any (x y : Int) (hx : InU x) (hy : InU y) (hxy : x ≠ y) (bl bh cl ch : Int) (h1 : InU bl) (h2 : InU bh) (h3 : InS cl) (h4 : InS ch) (n : Nat) (hn : n < 256) (w : World) : Calls Try.prog 3 #[.int .u64 x, .int .u64 y, .agg #[.int .u64 bl, .int .u64 bh], .agg #[.int .i64 cl, .int .i64 ch], .int .u8 (n : Int)] w fun e w' => e = .returned (.bool true) ∧ Gr w w' := by
  have hb : (x == y) = false := beq_eq_false_iff_ne.2 hxy
  have HXY : Hid (x ≠ y) := hxy
  clear hxy
  go_enter Try.func3, Try.ntmps3
  go_upto_region 3 with fail
  go_cut [11] (fun a wx => ∃ al ah, InU al ∧ InU ah ∧ decide (ah < al) = true ∧ a = .pointer (some ⟨w.heap.size + 1 + 1, 0, none⟩) ∧ wx = ((w.alloc (.cells #[.int .u64 bl, .int .u64 bh] 24)).alloc (.cells #[.int .i64 cl, .int .i64 ch] 26)).alloc (.cells #[.int .u64 al, .int .u64 ah] 24))
  case first =>
    have hne := HXY.out
    rcases (show x < y ∨ y < x by omega) with h | h
    all_goals
      go_wp2
      all_goals first | omega | skip
      all_goals go_meet
      all_goals
        case rel => first | exact ⟨_, _, hy, hx, decide_eq_true h, rfl, rfl⟩ | exact ⟨_, _, hx, hy, decide_eq_true h, rfl, rfl⟩
  case rest =>
    obtain ⟨al, ah, i0, i1, za, rfl, rfl⟩ := hcut
    go_upto_region 4 with fail
    go_cut [12] (fun a wx => ∃ dl dh, InS dl ∧ InS dh ∧ decide (dh < dl) = true ∧ a = .pointer (some ⟨w.heap.size + 1 + 1 + 1, 0, none⟩) ∧ wx = (((w.alloc (.cells #[.int .u64 bl, .int .u64 bh] 24)).alloc (.cells #[.int .i64 cl, .int .i64 ch] 26)).alloc (.cells #[.int .u64 al, .int .u64 ah] 24)).alloc (.cells #[.int .i64 dl, .int .i64 dh] 26))
    case first =>
      have kx : InS (wrap64 x) := by unfold InS; simp only [wrap64]; omega
      have ky : InS (wrap64 y) := by unfold InS; simp only [wrap64]; omega
      have hne : wrap64 x ≠ wrap64 y := by have := HXY.out; unfold InU at hx hy; simp only [wrap64]; omega
      rcases (show wrap64 x < wrap64 y ∨ wrap64 y < wrap64 x by omega) with h | h
      all_goals
        go_wp2
        all_goals first | omega | skip
        all_goals go_meet
        all_goals
          case rel => first | exact ⟨_, _, ky, kx, decide_eq_true h, rfl, rfl⟩ | exact ⟨_, _, kx, ky, decide_eq_true h, rfl, rfl⟩
    case rest =>
      obtain ⟨dl, dh, i2, i3, zd, rfl, rfl⟩ := hcut
      go_upto_region 6 with fail
      have HB : Hid (At ((((w.alloc (.cells #[.int .u64 bl, .int .u64 bh] 24)).alloc (.cells #[.int .i64 cl, .int .i64 ch] 26)).alloc (.cells #[.int .u64 al, .int .u64 ah] 24)).alloc (.cells #[.int .i64 dl, .int .i64 dh] 26)) w.heap.size (.int .u64 bl) (.int .u64 bh) 24) := (((At.newb _ rfl _ _ _).alloc _).alloc _).alloc _
      have HC : Hid (At ((((w.alloc (.cells #[.int .u64 bl, .int .u64 bh] 24)).alloc (.cells #[.int .i64 cl, .int .i64 ch] 26)).alloc (.cells #[.int .u64 al, .int .u64 ah] 24)).alloc (.cells #[.int .i64 dl, .int .i64 dh] 26)) (w.heap.size + 1) (.int .i64 cl) (.int .i64 ch) 26) := ((At.newb _ (by simp) _ _ _).alloc _).alloc _
      have HA : Hid (At ((((w.alloc (.cells #[.int .u64 bl, .int .u64 bh] 24)).alloc (.cells #[.int .i64 cl, .int .i64 ch] 26)).alloc (.cells #[.int .u64 al, .int .u64 ah] 24)).alloc (.cells #[.int .i64 dl, .int .i64 dh] 26)) (w.heap.size + 1 + 1) (.int .u64 al) (.int .u64 ah) 24) := (At.newb _ (by simp) _ _ _).alloc _
      have HD : Hid (At ((((w.alloc (.cells #[.int .u64 bl, .int .u64 bh] 24)).alloc (.cells #[.int .i64 cl, .int .i64 ch] 26)).alloc (.cells #[.int .u64 al, .int .u64 ah] 24)).alloc (.cells #[.int .i64 dl, .int .i64 dh] 26)) (w.heap.size + 1 + 1 + 1) (.int .i64 dl) (.int .i64 dh) 26) := At.newb _ (by simp) _ _ _
      have HF : Hid (Gr w ((((w.alloc (.cells #[.int .u64 bl, .int .u64 bh] 24)).alloc (.cells #[.int .i64 cl, .int .i64 ch] 26)).alloc (.cells #[.int .u64 al, .int .u64 ah] 24)).alloc (.cells #[.int .i64 dl, .int .i64 dh] 26))) := (⟨by go_grown, by go_grown⟩ : Gr w _)
      revert HB HC HA HD HF
      generalize ((((w.alloc (.cells #[.int .u64 bl, .int .u64 bh] 24)).alloc (.cells #[.int .i64 cl, .int .i64 ch] 26)).alloc (.cells #[.int .u64 al, .int .u64 ah] 24)).alloc (.cells #[.int .i64 dl, .int .i64 dh] 26)) = W
      generalize w.heap.size = B
      intro HB HC HA HD HF
      have a0 := HA.out.c0
      have a1 := HA.out.c1
      have b0 := HB.out.c0
      have b1 := HB.out.c1
      have d0 := HD.out.c0
      have d1 := HD.out.c1
      go_region_held3 (fun w' => w'.cell? ⟨B + 1 + 1, 0, none⟩ = some (.int .u64 al) ∧ w'.cell? ⟨B + 1 + 1, 1, none⟩ = some (.int .u64 ah) ∧ w'.cell? ⟨B, 0, none⟩ = some (.int .u64 bl) ∧ w'.cell? ⟨B, 1, none⟩ = some (.int .u64 bh) ∧ w'.cell? ⟨B + 1 + 1 + 1, 0, none⟩ = some (.int .i64 dl) ∧ w'.cell? ⟨B + 1 + 1 + 1, 1, none⟩ = some (.int .i64 dh)) ((refine ⟨?_, ?_, ?_, ?_, ?_, ?_⟩ <;> repeat (with_reducible (first | assumption | apply cell_al | apply cell_dr | (refine cell_gr (by assumption) ?_) | (refine cell_st (by simp <;> omega) ?_)))))
        (first
        | (go_at_call 6; refine (add_n _ _ _ _ i0 i1 h1 h2 za _).mono ?_; rintro e w1 ⟨rfl, hg⟩; replace HB := Hid_gr HB hg; replace HC := Hid_gr HC hg; replace HA := Hid_gr HA hg; replace HD := Hid_gr HD hg; replace HF := Hid_tr HF hg)
        | (go_at_call 7; refine (sub_n _ _ _ _ h1 h2 i0 i1 za _).mono ?_; rintro e w1 ⟨rfl, hg⟩; replace HB := Hid_gr HB hg; replace HC := Hid_gr HC hg; replace HA := Hid_gr HA hg; replace HD := Hid_gr HD hg; replace HF := Hid_tr HF hg)
        | (go_at_call 8; refine (mul_n _ _ _ _ i0 i1 h1 h2 za _).mono ?_; rintro e w1 ⟨rfl, hg⟩; replace HB := Hid_gr HB hg; replace HC := Hid_gr HC hg; replace HA := Hid_gr HA hg; replace HD := Hid_gr HD hg; replace HF := Hid_tr HF hg)
        | (go_at_call 9; refine (div_n _ _ _ _ h1 h2 i0 i1 za _).mono ?_; rintro e w1 ⟨rfl, hg⟩; replace HB := Hid_gr HB hg; replace HC := Hid_gr HC hg; replace HA := Hid_gr HA hg; replace HD := Hid_gr HD hg; replace HF := Hid_tr HF hg)
        | (go_at_call 10; refine (mod_n _ _ _ _ i0 i1 h1 h2 za _).mono ?_; rintro e w1 ⟨rfl, hg⟩; replace HB := Hid_gr HB hg; replace HC := Hid_gr HC hg; replace HA := Hid_gr HA hg; replace HD := Hid_gr HD hg; replace HF := Hid_tr HF hg)
        | (go_at_call 11; refine (shl_n _ _ i0 i1 _ za _).mono ?_; rintro e w1 ⟨rfl, hg⟩; replace HB := Hid_gr HB hg; replace HC := Hid_gr HC hg; replace HA := Hid_gr HA hg; replace HD := Hid_gr HD hg; replace HF := Hid_tr HF hg)
        | (go_at_call 12; refine (shr_n _ _ i0 i1 _ za _).mono ?_; rintro e w1 ⟨rfl, hg⟩; replace HB := Hid_gr HB hg; replace HC := Hid_gr HC hg; replace HA := Hid_gr HA hg; replace HD := Hid_gr HD hg; replace HF := Hid_tr HF hg)
        | (go_at_call 13; refine (meet_n _ _ _ _ za _).mono ?_; rintro e w1 ⟨rfl, hg⟩; replace HB := Hid_gr HB hg; replace HC := Hid_gr HC hg; replace HA := Hid_gr HA hg; replace HD := Hid_gr HD hg; replace HF := Hid_tr HF hg)
        | (go_at_call 14; refine (bare_n _ _ zd _).mono ?_; rintro e w1 ⟨rfl, hg⟩; replace HB := Hid_gr HB hg; replace HC := Hid_gr HC hg; replace HA := Hid_gr HA hg; replace HD := Hid_gr HD hg; replace HF := Hid_tr HF hg))
      have HL : ∀ p : GrBy (w1.alloc (.cells #[.int .u64 1, .int .u64 0, .int .u64 1, .int .u64 0, .int .u64 1, .int .u64 0, .int .u64 1, .int .u64 0, .int .u64 1, .int .u64 0, .int .u64 1, .int .u64 0, .int .u64 1, .int .u64 0, .int .u64 1, .int .u64 0, .int .u64 1, .int .u64 0] 24)), p.to.heap[w1.heap.size]? = some (.cells #[.int .u64 1, .int .u64 0, .int .u64 1, .int .u64 0, .int .u64 1, .int .u64 0, .int .u64 1, .int .u64 0, .int .u64 1, .int .u64 0, .int .u64 1, .int .u64 0, .int .u64 1, .int .u64 0, .int .u64 1, .int .u64 0, .int .u64 1, .int .u64 0] 24) := fun p => (p.gr.below.block w1.heap.size (by simp)).trans (by show (w1.heap.push _)[w1.heap.size]? = _; simp)
      have l0 : ∀ p : GrBy (w1.alloc (.cells #[.int .u64 1, .int .u64 0, .int .u64 1, .int .u64 0, .int .u64 1, .int .u64 0, .int .u64 1, .int .u64 0, .int .u64 1, .int .u64 0, .int .u64 1, .int .u64 0, .int .u64 1, .int .u64 0, .int .u64 1, .int .u64 0, .int .u64 1, .int .u64 0] 24)), p.to.cell? ⟨w1.heap.size, 0, none⟩ = some (.int .u64 1) := fun p => cell_at (HL p) (by rfl)
      have l1 : ∀ p : GrBy (w1.alloc (.cells #[.int .u64 1, .int .u64 0, .int .u64 1, .int .u64 0, .int .u64 1, .int .u64 0, .int .u64 1, .int .u64 0, .int .u64 1, .int .u64 0, .int .u64 1, .int .u64 0, .int .u64 1, .int .u64 0, .int .u64 1, .int .u64 0, .int .u64 1, .int .u64 0] 24)), p.to.cell? ⟨w1.heap.size, 1, none⟩ = some (.int .u64 0) := fun p => cell_at (HL p) (by rfl)
      have l2 : ∀ p : GrBy (w1.alloc (.cells #[.int .u64 1, .int .u64 0, .int .u64 1, .int .u64 0, .int .u64 1, .int .u64 0, .int .u64 1, .int .u64 0, .int .u64 1, .int .u64 0, .int .u64 1, .int .u64 0, .int .u64 1, .int .u64 0, .int .u64 1, .int .u64 0, .int .u64 1, .int .u64 0] 24)), p.to.cell? ⟨w1.heap.size, 2, none⟩ = some (.int .u64 1) := fun p => cell_at (HL p) (by rfl)
      have l3 : ∀ p : GrBy (w1.alloc (.cells #[.int .u64 1, .int .u64 0, .int .u64 1, .int .u64 0, .int .u64 1, .int .u64 0, .int .u64 1, .int .u64 0, .int .u64 1, .int .u64 0, .int .u64 1, .int .u64 0, .int .u64 1, .int .u64 0, .int .u64 1, .int .u64 0, .int .u64 1, .int .u64 0] 24)), p.to.cell? ⟨w1.heap.size, 3, none⟩ = some (.int .u64 0) := fun p => cell_at (HL p) (by rfl)
      have l4 : ∀ p : GrBy (w1.alloc (.cells #[.int .u64 1, .int .u64 0, .int .u64 1, .int .u64 0, .int .u64 1, .int .u64 0, .int .u64 1, .int .u64 0, .int .u64 1, .int .u64 0, .int .u64 1, .int .u64 0, .int .u64 1, .int .u64 0, .int .u64 1, .int .u64 0, .int .u64 1, .int .u64 0] 24)), p.to.cell? ⟨w1.heap.size, 4, none⟩ = some (.int .u64 1) := fun p => cell_at (HL p) (by rfl)
      have l5 : ∀ p : GrBy (w1.alloc (.cells #[.int .u64 1, .int .u64 0, .int .u64 1, .int .u64 0, .int .u64 1, .int .u64 0, .int .u64 1, .int .u64 0, .int .u64 1, .int .u64 0, .int .u64 1, .int .u64 0, .int .u64 1, .int .u64 0, .int .u64 1, .int .u64 0, .int .u64 1, .int .u64 0] 24)), p.to.cell? ⟨w1.heap.size, 5, none⟩ = some (.int .u64 0) := fun p => cell_at (HL p) (by rfl)
      have l6 : ∀ p : GrBy (w1.alloc (.cells #[.int .u64 1, .int .u64 0, .int .u64 1, .int .u64 0, .int .u64 1, .int .u64 0, .int .u64 1, .int .u64 0, .int .u64 1, .int .u64 0, .int .u64 1, .int .u64 0, .int .u64 1, .int .u64 0, .int .u64 1, .int .u64 0, .int .u64 1, .int .u64 0] 24)), p.to.cell? ⟨w1.heap.size, 6, none⟩ = some (.int .u64 1) := fun p => cell_at (HL p) (by rfl)
      have l7 : ∀ p : GrBy (w1.alloc (.cells #[.int .u64 1, .int .u64 0, .int .u64 1, .int .u64 0, .int .u64 1, .int .u64 0, .int .u64 1, .int .u64 0, .int .u64 1, .int .u64 0, .int .u64 1, .int .u64 0, .int .u64 1, .int .u64 0, .int .u64 1, .int .u64 0, .int .u64 1, .int .u64 0] 24)), p.to.cell? ⟨w1.heap.size, 7, none⟩ = some (.int .u64 0) := fun p => cell_at (HL p) (by rfl)
      have l8 : ∀ p : GrBy (w1.alloc (.cells #[.int .u64 1, .int .u64 0, .int .u64 1, .int .u64 0, .int .u64 1, .int .u64 0, .int .u64 1, .int .u64 0, .int .u64 1, .int .u64 0, .int .u64 1, .int .u64 0, .int .u64 1, .int .u64 0, .int .u64 1, .int .u64 0, .int .u64 1, .int .u64 0] 24)), p.to.cell? ⟨w1.heap.size, 8, none⟩ = some (.int .u64 1) := fun p => cell_at (HL p) (by rfl)
      have l9 : ∀ p : GrBy (w1.alloc (.cells #[.int .u64 1, .int .u64 0, .int .u64 1, .int .u64 0, .int .u64 1, .int .u64 0, .int .u64 1, .int .u64 0, .int .u64 1, .int .u64 0, .int .u64 1, .int .u64 0, .int .u64 1, .int .u64 0, .int .u64 1, .int .u64 0, .int .u64 1, .int .u64 0] 24)), p.to.cell? ⟨w1.heap.size, 9, none⟩ = some (.int .u64 0) := fun p => cell_at (HL p) (by rfl)
      have l10 : ∀ p : GrBy (w1.alloc (.cells #[.int .u64 1, .int .u64 0, .int .u64 1, .int .u64 0, .int .u64 1, .int .u64 0, .int .u64 1, .int .u64 0, .int .u64 1, .int .u64 0, .int .u64 1, .int .u64 0, .int .u64 1, .int .u64 0, .int .u64 1, .int .u64 0, .int .u64 1, .int .u64 0] 24)), p.to.cell? ⟨w1.heap.size, 10, none⟩ = some (.int .u64 1) := fun p => cell_at (HL p) (by rfl)
      have l11 : ∀ p : GrBy (w1.alloc (.cells #[.int .u64 1, .int .u64 0, .int .u64 1, .int .u64 0, .int .u64 1, .int .u64 0, .int .u64 1, .int .u64 0, .int .u64 1, .int .u64 0, .int .u64 1, .int .u64 0, .int .u64 1, .int .u64 0, .int .u64 1, .int .u64 0, .int .u64 1, .int .u64 0] 24)), p.to.cell? ⟨w1.heap.size, 11, none⟩ = some (.int .u64 0) := fun p => cell_at (HL p) (by rfl)
      have l12 : ∀ p : GrBy (w1.alloc (.cells #[.int .u64 1, .int .u64 0, .int .u64 1, .int .u64 0, .int .u64 1, .int .u64 0, .int .u64 1, .int .u64 0, .int .u64 1, .int .u64 0, .int .u64 1, .int .u64 0, .int .u64 1, .int .u64 0, .int .u64 1, .int .u64 0, .int .u64 1, .int .u64 0] 24)), p.to.cell? ⟨w1.heap.size, 12, none⟩ = some (.int .u64 1) := fun p => cell_at (HL p) (by rfl)
      have l13 : ∀ p : GrBy (w1.alloc (.cells #[.int .u64 1, .int .u64 0, .int .u64 1, .int .u64 0, .int .u64 1, .int .u64 0, .int .u64 1, .int .u64 0, .int .u64 1, .int .u64 0, .int .u64 1, .int .u64 0, .int .u64 1, .int .u64 0, .int .u64 1, .int .u64 0, .int .u64 1, .int .u64 0] 24)), p.to.cell? ⟨w1.heap.size, 13, none⟩ = some (.int .u64 0) := fun p => cell_at (HL p) (by rfl)
      have l14 : ∀ p : GrBy (w1.alloc (.cells #[.int .u64 1, .int .u64 0, .int .u64 1, .int .u64 0, .int .u64 1, .int .u64 0, .int .u64 1, .int .u64 0, .int .u64 1, .int .u64 0, .int .u64 1, .int .u64 0, .int .u64 1, .int .u64 0, .int .u64 1, .int .u64 0, .int .u64 1, .int .u64 0] 24)), p.to.cell? ⟨w1.heap.size, 14, none⟩ = some (.int .u64 1) := fun p => cell_at (HL p) (by rfl)
      have l15 : ∀ p : GrBy (w1.alloc (.cells #[.int .u64 1, .int .u64 0, .int .u64 1, .int .u64 0, .int .u64 1, .int .u64 0, .int .u64 1, .int .u64 0, .int .u64 1, .int .u64 0, .int .u64 1, .int .u64 0, .int .u64 1, .int .u64 0, .int .u64 1, .int .u64 0, .int .u64 1, .int .u64 0] 24)), p.to.cell? ⟨w1.heap.size, 15, none⟩ = some (.int .u64 0) := fun p => cell_at (HL p) (by rfl)
      have l16 : ∀ p : GrBy (w1.alloc (.cells #[.int .u64 1, .int .u64 0, .int .u64 1, .int .u64 0, .int .u64 1, .int .u64 0, .int .u64 1, .int .u64 0, .int .u64 1, .int .u64 0, .int .u64 1, .int .u64 0, .int .u64 1, .int .u64 0, .int .u64 1, .int .u64 0, .int .u64 1, .int .u64 0] 24)), p.to.cell? ⟨w1.heap.size, 16, none⟩ = some (.int .u64 1) := fun p => cell_at (HL p) (by rfl)
      have l17 : ∀ p : GrBy (w1.alloc (.cells #[.int .u64 1, .int .u64 0, .int .u64 1, .int .u64 0, .int .u64 1, .int .u64 0, .int .u64 1, .int .u64 0, .int .u64 1, .int .u64 0, .int .u64 1, .int .u64 0, .int .u64 1, .int .u64 0, .int .u64 1, .int .u64 0, .int .u64 1, .int .u64 0] 24)), p.to.cell? ⟨w1.heap.size, 17, none⟩ = some (.int .u64 0) := fun p => cell_at (HL p) (by rfl)
      have HB9 : Hid (At (w1.alloc (.cells #[.int .u64 1, .int .u64 0, .int .u64 1, .int .u64 0, .int .u64 1, .int .u64 0, .int .u64 1, .int .u64 0, .int .u64 1, .int .u64 0, .int .u64 1, .int .u64 0, .int .u64 1, .int .u64 0, .int .u64 1, .int .u64 0, .int .u64 1, .int .u64 0] 24)) B (.int .u64 bl) (.int .u64 bh) 24) := HB.out.alloc _
      have HC9 : Hid (At (w1.alloc (.cells #[.int .u64 1, .int .u64 0, .int .u64 1, .int .u64 0, .int .u64 1, .int .u64 0, .int .u64 1, .int .u64 0, .int .u64 1, .int .u64 0, .int .u64 1, .int .u64 0, .int .u64 1, .int .u64 0, .int .u64 1, .int .u64 0, .int .u64 1, .int .u64 0] 24)) (B + 1) (.int .i64 cl) (.int .i64 ch) 26) := HC.out.alloc _
      have HA9 : Hid (At (w1.alloc (.cells #[.int .u64 1, .int .u64 0, .int .u64 1, .int .u64 0, .int .u64 1, .int .u64 0, .int .u64 1, .int .u64 0, .int .u64 1, .int .u64 0, .int .u64 1, .int .u64 0, .int .u64 1, .int .u64 0, .int .u64 1, .int .u64 0, .int .u64 1, .int .u64 0] 24)) (B + 1 + 1) (.int .u64 al) (.int .u64 ah) 24) := HA.out.alloc _
      have HD9 : Hid (At (w1.alloc (.cells #[.int .u64 1, .int .u64 0, .int .u64 1, .int .u64 0, .int .u64 1, .int .u64 0, .int .u64 1, .int .u64 0, .int .u64 1, .int .u64 0, .int .u64 1, .int .u64 0, .int .u64 1, .int .u64 0, .int .u64 1, .int .u64 0, .int .u64 1, .int .u64 0] 24)) (B + 1 + 1 + 1) (.int .i64 dl) (.int .i64 dh) 26) := HD.out.alloc _
      have HF9 : Hid (Gr w (w1.alloc (.cells #[.int .u64 1, .int .u64 0, .int .u64 1, .int .u64 0, .int .u64 1, .int .u64 0, .int .u64 1, .int .u64 0, .int .u64 1, .int .u64 0, .int .u64 1, .int .u64 0, .int .u64 1, .int .u64 0, .int .u64 1, .int .u64 0, .int .u64 1, .int .u64 0] 24))) := HF.out.alloc _ _
      clear HL HB HC HA HD HF a0 a1 b0 b1 d0 d1
      go_wp2_with fail
      revert l0 l1 l2 l3 l4 l5 l6 l7 l8 l9 l10 l11 l12 l13 l14 l15 l16 l17 HB9 HC9 HA9 HD9 HF9
      generalize (w1.alloc (.cells #[.int .u64 1, .int .u64 0, .int .u64 1, .int .u64 0, .int .u64 1, .int .u64 0, .int .u64 1, .int .u64 0, .int .u64 1, .int .u64 0, .int .u64 1, .int .u64 0, .int .u64 1, .int .u64 0, .int .u64 1, .int .u64 0, .int .u64 1, .int .u64 0] 24)) = X
      intro l0 l1 l2 l3 l4 l5 l6 l7 l8 l9 l10 l11 l12 l13 l14 l15 l16 l17 HB HC HA HD HF
      have hne : Nonempty (GrBy X) := ⟨⟨X, Gr.refl X⟩⟩
      obtain ⟨p', hp'⟩ : ∃ p : GrBy X, p.to = X := ⟨⟨X, Gr.refl X⟩, rfl⟩
      rw [← hp']
      clear hp'
      refine wp_loop_rounds 10 ?_
      repeat any_goals (rw [rounds_succ]; go_wp2_with (first
        | (go_at_call 15; refine (none_10 _).mono ?_; rintro e w' ⟨rfl, hg⟩; obtain ⟨q', rfl⟩ := by_of hg; clear hg)))
      clear l0 l1 l2 l3 l4 l5 l6 l7 l8 l9 l10 l11 l12 l13 l14 l15 l16 l17
      have HB9 : Hid (At q'.to B (.int .u64 bl) (.int .u64 bh) 24) := HB.out.gr q'.gr
      have HC9 : Hid (At q'.to (B + 1) (.int .i64 cl) (.int .i64 ch) 26) := HC.out.gr q'.gr
      have HA9 : Hid (At q'.to (B + 1 + 1) (.int .u64 al) (.int .u64 ah) 24) := HA.out.gr q'.gr
      have HD9 : Hid (At q'.to (B + 1 + 1 + 1) (.int .i64 dl) (.int .i64 dh) 26) := HD.out.gr q'.gr
      have HF9 : Hid (Gr w q'.to) := HF.out.trans q'.gr
      clear HB HC HA HD HF
      revert HB9 HC9 HA9 HD9 HF9
      generalize q'.to = W
      intro HB HC HA HD HF
      have a0 := HA.out.c0
      have a1 := HA.out.c1
      have c0 := HC.out.c0
      have c1 := HC.out.c1
      have d0 := HD.out.c0
      have d1 := HD.out.c1
      go_region_held3 (fun w' => w'.cell? ⟨B + 1 + 1, 0, none⟩ = some (.int .u64 al) ∧ w'.cell? ⟨B + 1 + 1, 1, none⟩ = some (.int .u64 ah) ∧ w'.cell? ⟨B + 1, 0, none⟩ = some (.int .i64 cl) ∧ w'.cell? ⟨B + 1, 1, none⟩ = some (.int .i64 ch) ∧ w'.cell? ⟨B + 1 + 1 + 1, 0, none⟩ = some (.int .i64 dl) ∧ w'.cell? ⟨B + 1 + 1 + 1, 1, none⟩ = some (.int .i64 dh)) ((refine ⟨?_, ?_, ?_, ?_, ?_, ?_⟩ <;> repeat (with_reducible (first | assumption | apply cell_al | apply cell_dr | (refine cell_gr (by assumption) ?_) | (refine cell_st (by simp <;> omega) ?_)))))
        (first
        | (go_at_call 16; refine (plus_n _ _ _ _ h3 h4 i2 i3 zd _).mono ?_; rintro e w1 ⟨rfl, hg⟩; replace HB := Hid_gr HB hg; replace HC := Hid_gr HC hg; replace HA := Hid_gr HA hg; replace HD := Hid_gr HD hg; replace HF := Hid_tr HF hg)
        | (go_at_call 17; refine (minus_n _ _ _ _ i2 i3 h3 h4 zd _).mono ?_; rintro e w1 ⟨rfl, hg⟩; replace HB := Hid_gr HB hg; replace HC := Hid_gr HC hg; replace HA := Hid_gr HA hg; replace HD := Hid_gr HD hg; replace HF := Hid_tr HF hg)
        | (go_at_call 18; refine (sar_n _ _ i2 i3 _ zd _).mono ?_; rintro e w1 ⟨rfl, hg⟩; replace HB := Hid_gr HB hg; replace HC := Hid_gr HC hg; replace HA := Hid_gr HA hg; replace HD := Hid_gr HD hg; replace HF := Hid_tr HF hg)
        | (go_at_call 19; refine (cut_n _ _ _ _ zd _).mono ?_; rintro e w1 ⟨rfl, hg⟩; replace HB := Hid_gr HB hg; replace HC := Hid_gr HC hg; replace HA := Hid_gr HA hg; replace HD := Hid_gr HD hg; replace HF := Hid_tr HF hg)
        | (go_at_call 20; refine (sign_n _ _ za _).mono ?_; rintro e w1 ⟨rfl, hg⟩; replace HB := Hid_gr HB hg; replace HC := Hid_gr HC hg; replace HA := Hid_gr HA hg; replace HD := Hid_gr HD hg; replace HF := Hid_tr HF hg))
      have HL : ∀ p : GrBy (w1.alloc (.cells #[.int .i64 1, .int .i64 0, .int .i64 1, .int .i64 0, .int .i64 1, .int .i64 0, .int .i64 1, .int .i64 0, .int .i64 1, .int .i64 0] 26)), p.to.heap[w1.heap.size]? = some (.cells #[.int .i64 1, .int .i64 0, .int .i64 1, .int .i64 0, .int .i64 1, .int .i64 0, .int .i64 1, .int .i64 0, .int .i64 1, .int .i64 0] 26) := fun p => (p.gr.below.block w1.heap.size (by simp)).trans (by show (w1.heap.push _)[w1.heap.size]? = _; simp)
      have m0 : ∀ p : GrBy (w1.alloc (.cells #[.int .i64 1, .int .i64 0, .int .i64 1, .int .i64 0, .int .i64 1, .int .i64 0, .int .i64 1, .int .i64 0, .int .i64 1, .int .i64 0] 26)), p.to.cell? ⟨w1.heap.size, 0, none⟩ = some (.int .i64 1) := fun p => cell_at (HL p) (by rfl)
      have m1 : ∀ p : GrBy (w1.alloc (.cells #[.int .i64 1, .int .i64 0, .int .i64 1, .int .i64 0, .int .i64 1, .int .i64 0, .int .i64 1, .int .i64 0, .int .i64 1, .int .i64 0] 26)), p.to.cell? ⟨w1.heap.size, 1, none⟩ = some (.int .i64 0) := fun p => cell_at (HL p) (by rfl)
      have m2 : ∀ p : GrBy (w1.alloc (.cells #[.int .i64 1, .int .i64 0, .int .i64 1, .int .i64 0, .int .i64 1, .int .i64 0, .int .i64 1, .int .i64 0, .int .i64 1, .int .i64 0] 26)), p.to.cell? ⟨w1.heap.size, 2, none⟩ = some (.int .i64 1) := fun p => cell_at (HL p) (by rfl)
      have m3 : ∀ p : GrBy (w1.alloc (.cells #[.int .i64 1, .int .i64 0, .int .i64 1, .int .i64 0, .int .i64 1, .int .i64 0, .int .i64 1, .int .i64 0, .int .i64 1, .int .i64 0] 26)), p.to.cell? ⟨w1.heap.size, 3, none⟩ = some (.int .i64 0) := fun p => cell_at (HL p) (by rfl)
      have m4 : ∀ p : GrBy (w1.alloc (.cells #[.int .i64 1, .int .i64 0, .int .i64 1, .int .i64 0, .int .i64 1, .int .i64 0, .int .i64 1, .int .i64 0, .int .i64 1, .int .i64 0] 26)), p.to.cell? ⟨w1.heap.size, 4, none⟩ = some (.int .i64 1) := fun p => cell_at (HL p) (by rfl)
      have m5 : ∀ p : GrBy (w1.alloc (.cells #[.int .i64 1, .int .i64 0, .int .i64 1, .int .i64 0, .int .i64 1, .int .i64 0, .int .i64 1, .int .i64 0, .int .i64 1, .int .i64 0] 26)), p.to.cell? ⟨w1.heap.size, 5, none⟩ = some (.int .i64 0) := fun p => cell_at (HL p) (by rfl)
      have m6 : ∀ p : GrBy (w1.alloc (.cells #[.int .i64 1, .int .i64 0, .int .i64 1, .int .i64 0, .int .i64 1, .int .i64 0, .int .i64 1, .int .i64 0, .int .i64 1, .int .i64 0] 26)), p.to.cell? ⟨w1.heap.size, 6, none⟩ = some (.int .i64 1) := fun p => cell_at (HL p) (by rfl)
      have m7 : ∀ p : GrBy (w1.alloc (.cells #[.int .i64 1, .int .i64 0, .int .i64 1, .int .i64 0, .int .i64 1, .int .i64 0, .int .i64 1, .int .i64 0, .int .i64 1, .int .i64 0] 26)), p.to.cell? ⟨w1.heap.size, 7, none⟩ = some (.int .i64 0) := fun p => cell_at (HL p) (by rfl)
      have m8 : ∀ p : GrBy (w1.alloc (.cells #[.int .i64 1, .int .i64 0, .int .i64 1, .int .i64 0, .int .i64 1, .int .i64 0, .int .i64 1, .int .i64 0, .int .i64 1, .int .i64 0] 26)), p.to.cell? ⟨w1.heap.size, 8, none⟩ = some (.int .i64 1) := fun p => cell_at (HL p) (by rfl)
      have m9 : ∀ p : GrBy (w1.alloc (.cells #[.int .i64 1, .int .i64 0, .int .i64 1, .int .i64 0, .int .i64 1, .int .i64 0, .int .i64 1, .int .i64 0, .int .i64 1, .int .i64 0] 26)), p.to.cell? ⟨w1.heap.size, 9, none⟩ = some (.int .i64 0) := fun p => cell_at (HL p) (by rfl)
      have HB9 : Hid (At (w1.alloc (.cells #[.int .i64 1, .int .i64 0, .int .i64 1, .int .i64 0, .int .i64 1, .int .i64 0, .int .i64 1, .int .i64 0, .int .i64 1, .int .i64 0] 26)) B (.int .u64 bl) (.int .u64 bh) 24) := HB.out.alloc _
      have HC9 : Hid (At (w1.alloc (.cells #[.int .i64 1, .int .i64 0, .int .i64 1, .int .i64 0, .int .i64 1, .int .i64 0, .int .i64 1, .int .i64 0, .int .i64 1, .int .i64 0] 26)) (B + 1) (.int .i64 cl) (.int .i64 ch) 26) := HC.out.alloc _
      have HA9 : Hid (At (w1.alloc (.cells #[.int .i64 1, .int .i64 0, .int .i64 1, .int .i64 0, .int .i64 1, .int .i64 0, .int .i64 1, .int .i64 0, .int .i64 1, .int .i64 0] 26)) (B + 1 + 1) (.int .u64 al) (.int .u64 ah) 24) := HA.out.alloc _
      have HD9 : Hid (At (w1.alloc (.cells #[.int .i64 1, .int .i64 0, .int .i64 1, .int .i64 0, .int .i64 1, .int .i64 0, .int .i64 1, .int .i64 0, .int .i64 1, .int .i64 0] 26)) (B + 1 + 1 + 1) (.int .i64 dl) (.int .i64 dh) 26) := HD.out.alloc _
      have HF9 : Hid (Gr w (w1.alloc (.cells #[.int .i64 1, .int .i64 0, .int .i64 1, .int .i64 0, .int .i64 1, .int .i64 0, .int .i64 1, .int .i64 0, .int .i64 1, .int .i64 0] 26))) := HF.out.alloc _ _
      clear HL HB HC HA HD HF a0 a1 c0 c1 d0 d1
      go_wp2_with fail
      revert m0 m1 m2 m3 m4 m5 m6 m7 m8 m9 HB9 HC9 HA9 HD9 HF9
      generalize (w1.alloc (.cells #[.int .i64 1, .int .i64 0, .int .i64 1, .int .i64 0, .int .i64 1, .int .i64 0, .int .i64 1, .int .i64 0, .int .i64 1, .int .i64 0] 26)) = Y
      intro m0 m1 m2 m3 m4 m5 m6 m7 m8 m9 HB HC HA HD HF
      have hneY : Nonempty (GrBy Y) := ⟨⟨Y, Gr.refl Y⟩⟩
      obtain ⟨p', hp'⟩ : ∃ p : GrBy Y, p.to = Y := ⟨⟨Y, Gr.refl Y⟩, rfl⟩
      rw [← hp']
      clear hp'
      refine wp_loop_rounds 6 ?_
      repeat any_goals (rw [rounds_succ]; go_wp2_with (first
        | (go_at_call 21; refine (nil_10 _).mono ?_; rintro e w' ⟨rfl, hg⟩; obtain ⟨q', rfl⟩ := by_of hg; clear hg)))
      clear m0 m1 m2 m3 m4 m5 m6 m7 m8 m9
      have a0 : ∀ p : GrBy Y, p.to.cell? ⟨B + 1 + 1, 0, none⟩ = some (.int .u64 al) := fun p => (HA.out.gr p.gr).c0
      have a1 : ∀ p : GrBy Y, p.to.cell? ⟨B + 1 + 1, 1, none⟩ = some (.int .u64 ah) := fun p => (HA.out.gr p.gr).c1
      have b0 : ∀ p : GrBy Y, p.to.cell? ⟨B, 0, none⟩ = some (.int .u64 bl) := fun p => (HB.out.gr p.gr).c0
      have b1 : ∀ p : GrBy Y, p.to.cell? ⟨B, 1, none⟩ = some (.int .u64 bh) := fun p => (HB.out.gr p.gr).c1
      have c0 : ∀ p : GrBy Y, p.to.cell? ⟨B + 1, 0, none⟩ = some (.int .i64 cl) := fun p => (HC.out.gr p.gr).c0
      have c1 : ∀ p : GrBy Y, p.to.cell? ⟨B + 1, 1, none⟩ = some (.int .i64 ch) := fun p => (HC.out.gr p.gr).c1
      have d0 : ∀ p : GrBy Y, p.to.cell? ⟨B + 1 + 1 + 1, 0, none⟩ = some (.int .i64 dl) := fun p => (HD.out.gr p.gr).c0
      have d1 : ∀ p : GrBy Y, p.to.cell? ⟨B + 1 + 1 + 1, 1, none⟩ = some (.int .i64 dh) := fun p => (HD.out.gr p.gr).c1
      have k10 : decide ((0 : Int) < 1) = true := rfl
      cases kb : decide (bh < bl) <;> cases kc : decide (ch < cl)
      all_goals
        try simp only [List.append_eq, List.cons_append, List.nil_append]
        refine wp_region_by (by kernel_rfl) (by kernel_rfl) ?_
        repeat (first
          | go_big_quiet_skip
          | (go_big_quiet_want; go_big_quiet_op; first
            | go_big_quiet_on
            | (apply Exists.intro
               refine ⟨fun p => ?_, ?_⟩
               · first
                 | (go_at_call 22; exact calls_gr (join_n _ _ _ _ _ _ za (by first | exact Or.inl ⟨kb, rfl, rfl⟩ | exact Or.inr ⟨kb, rfl, rfl⟩) _))
                 | (go_at_call 23; exact calls_gr (both_n _ _ _ _ _ _ zd (by first | exact Or.inl ⟨kc, rfl, rfl⟩ | exact Or.inr ⟨kc, rfl, rfl⟩) _))
                 | (go_at_call 15; exact calls_gr (none_e _ _ _ (by with_reducible assumption) _))
                 | (go_at_call 21; exact calls_gr (nil_e _ _ _ (by with_reducible assumption) _))
                 | (go_at_call 24; exact calls_gr (in_n _ _ _ _ za _))
                 | (go_at_call 5; exact calls_gr (works_any _))
               go_big_quiet_on)))
        refine wpQuiet_nil ?_
        intro _ hw'
        obtain ⟨qq, rfl⟩ := hw'
        go_wp2
        go_ret
        exact ⟨rfl, HF.out.trans qq.gr⟩
theorem same_any (x : Int) (bl bh cl ch : Int) (n : Nat) (hn : n < 256) (w : World) : Calls Try.prog 3 #[.int .u64 x, .int .u64 x, .agg #[.int .u64 bl, .int .u64 bh], .agg #[.int .i64 cl, .int .i64 ch], .int .u8 (n : Int)] w fun e w' => e = .returned (.bool true) ∧ Gr w w' := by
  go_enter Try.func3, Try.ntmps3
  go_wp2_with (first
    | (go_at_call 5; refine (works_any _).mono ?_; rintro e w' ⟨rfl, hg⟩))
  go_ret
  exact ⟨rfl, Gr.trans ⟨by go_grown, by go_grown⟩ hg⟩
end Go.Proofs.Ytkfjjpdcbdbdiab
