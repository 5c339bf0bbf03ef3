/- Towards the statements of package span (layer 4): quotients and rests, of the program and of the document. -/
import Derived.Test.YtekenpgagfmgkaaGreatRefB
namespace Go.Proofs.YtekenpgagfmgkaaGreat
open Go.ChangeShapes Go.WideShapes Go.ChangeAt Go.RowKit
set_option linter.unusedVariables false
set_option maxRecDepth 20000

set_option maxHeartbeats 2000000 in
theorem div1 (pa pb : Nat) (al ah bl bh : Int) (h1 : InU al) (h2 : InU ah) (h3 : InU bl) (h4 : InU bh) (k1 : 0 < bl) (k2 : 0 < bh) (n1 : decide (ah < al) = false) (n2 : decide (bh < bl) = false) (w : World) (hA : At w pa (.int .u64 al) (.int .u64 ah) 26) (hB : At w pb (.int .u64 bl) (.int .u64 bh) 26) :
    Calls Tryz.prog 188 #[.pointer (some ⟨pa, 0, none⟩), .pointer (some ⟨pb, 0, none⟩)] w fun e w' => e = .returned (.agg #[.int .u64 (al / bh), .int .u64 (ah / bl)]) ∧ Gr w w' := by
  have HA : Hid (At (w.alloc (.cells #[.int .u64 0, .int .u64 0] 26)) pa (.int .u64 al) (.int .u64 ah) 26) := hA.alloc _
  have HB : Hid (At (w.alloc (.cells #[.int .u64 0, .int .u64 0] 26)) pb (.int .u64 bl) (.int .u64 bh) 26) := hB.alloc _
  have HX : Hid (At (w.alloc (.cells #[.int .u64 0, .int .u64 0] 26)) w.heap.size (.int .u64 0) (.int .u64 0) 26) := At.newb _ rfl _ _ _
  have HF : Hid (Gr w (w.alloc (.cells #[.int .u64 0, .int .u64 0] 26))) := (Gr.refl w).alloc _ _
  have hpa := hA.lt
  have hpb := hB.lt
  clear hA hB
  go_enter Tryz.func188, Tryz.ntmps188
  go_wp2_with fail
  revert HA HB HX HF
  generalize (w.alloc (.cells #[.int .u64 0, .int .u64 0] 26)) = W
  intro HA HB HX HF
  have a0 := HA.out.c0
  have a1 := HA.out.c1
  have b0 := HB.out.c0
  have b1 := HB.out.c1
  go_region_held3 (fun w' => w'.cell? ⟨pa, 0, none⟩ = some (.int .u64 al) ∧ w'.cell? ⟨pa, 1, none⟩ = some (.int .u64 ah) ∧ w'.cell? ⟨pb, 0, none⟩ = some (.int .u64 bl) ∧ w'.cell? ⟨pb, 1, none⟩ = some (.int .u64 bh)) ((refine ⟨?_, ?_, ?_, ?_⟩ <;> repeat (with_reducible (first | assumption | apply cell_al | apply cell_dr | (refine cell_gr (by assumption) ?_) | (refine cell_st (by simp <;> omega) ?_)))))
    (first
    | (go_at_call 108; refine (whole_u _).mono ?_; rintro e w' ⟨rfl, hw⟩; subst hw)
    | (go_at_call 189; refine (crossed_div _ _ _ _ _ _ h1 h2 h3 h4 k2 k1 _).mono ?_; rw [n1, n2]; rintro e w1 ⟨rfl, hg⟩; have hx : At w1 w.heap.size (.int .u64 0) (.int .u64 0) 26 := At.gr (by repeat (with_reducible (first | exact HX.out | apply At.drew | apply At.alloc))) hg; have hG : Hid (Gr w w1) := Gr.trans (by repeat (with_reducible (first | exact HF.out | apply Gr.drew | apply Gr.alloc))) hg; have f0 := hx.f0 0; have f1 := hx.f0 1; have c0 := hx.c0; have c1 := hx.c1; have e0 := (hx.set (.int .u64 (al / bh)) (.int .u64 (ah / bl))).c0; have e1 := (hx.set (.int .u64 (al / bh)) (.int .u64 (ah / bl))).c1; clear hx; simp only [eN, eE, Bool.or_self, Bool.and_self, if_true, if_false, Bool.false_eq_true]))
  all_goals go_wp2_with fail
  all_goals refine bodyPost_ret (by simp [results, Tryz.results188, go_sem, e0, e1]; try rfl) rfl ?_
  all_goals exact ⟨rfl, (hG.out.set (by omega) _).set (by omega) _⟩
theorem mod1 (pa pb : Nat) (al ah bl bh : Int) (h1 : InU al) (h2 : InU ah) (h3 : InU bl) (h4 : InU bh) (k2 : 0 < bh) (w : World) (hA : At w pa (.int .u64 al) (.int .u64 ah) 26) (hB : At w pb (.int .u64 bl) (.int .u64 bh) 26) :
    Calls Tryz.prog 191 #[.pointer (some ⟨pa, 0, none⟩), .pointer (some ⟨pb, 0, none⟩)] w fun e w' => e = .returned (.agg #[.int .u64 0, .int .u64 (eN (decide (bh - 1 < ah)) (bh - 1) ah)]) ∧ Gr w w' := by
  have a1 := (hA.alloc (.cells #[.int .u64 0, .int .u64 0] 26)).c1
  have b1 := (hB.alloc (.cells #[.int .u64 0, .int .u64 0] 26)).c1
  unfold InU at h1 h2 h3 h4
  have s1 : IntKind.u64.wrap (bh - 1) = bh - 1 := wrap_inU (by unfold InU; omega)
  clear hA hB
  rcases Int.lt_or_le (bh - 1) ah with h | h
  · rw [decide_eq_true h]
    go_enter Tryz.func191, Tryz.ntmps191
    go_wp2
    all_goals first | omega | skip
    all_goals go_returns
    all_goals exact ⟨by first | rfl | (simp [eN]; done), by go_grown, by go_grown⟩
  · rw [decide_eq_false (by omega)]
    go_enter Tryz.func191, Tryz.ntmps191
    go_wp2
    all_goals first | omega | skip
    all_goals go_returns
    all_goals exact ⟨by first | rfl | (simp [eN]; done), by go_grown, by go_grown⟩
set_option maxHeartbeats 4000000 in
theorem divided_div (pa pb : Nat) (al ah bl bh : Int) (h1 : InU al) (h2 : InU ah) (h3 : InU bl) (h4 : InU bh) (w : World) (hA : At w pa (.int .u64 al) (.int .u64 ah) 26) (hB : At w pb (.int .u64 bl) (.int .u64 bh) 26) :
    Calls Tryz.prog 187 #[.agg #[.int .u64 al, .int .u64 ah], .agg #[.int .u64 bl, .int .u64 bh], .func (.func 188) #[] #[.pointer (some ⟨pa, 0, none⟩), .pointer (some ⟨pb, 0, none⟩)]] w fun e w' => e = .returned (.agg #[.int .u64 (eN (decide (ah < al) || decide (bh < bl)) 1 (eN (decide (bl ≤ 0) && decide (0 ≤ bh)) 0 (al / bh))), .int .u64 (eN (decide (ah < al) || decide (bh < bl)) 0 (eN (decide (bl ≤ 0) && decide (0 ≤ bh)) ah (ah / bl)))]) ∧ Gr w w' := by
  cases n1 : decide (ah < al)
  · cases n2 : decide (bh < bl)
    · cases z : (decide (bl ≤ 0) && decide (0 ≤ bh))
      · have hn2 := of_decide_eq_false n2
        have k1 : 0 < bl := by
          unfold InU at *
          rcases Int.lt_or_le 0 bl with h | h
          · exact h
          · rw [decide_eq_true h, decide_eq_true (show 0 ≤ bh by omega)] at z; cases z
        have k2 : 0 < bh := by omega
        have HX : Hid (At (((((((((w.alloc (.cells #[.int .u64 al, .int .u64 ah] 26)).alloc (.cells #[.int .u64 bl, .int .u64 bh] 26)).alloc (.cells #[.int .u64 0, .int .u64 0] 26)).alloc (.cells #[.int .u64 al, .int .u64 ah] 26)).alloc (.cells #[.int .u64 al, .int .u64 ah] 114)).alloc (.cells #[.int .u64 bl, .int .u64 bh] 26)).alloc (.cells #[.int .u64 bl, .int .u64 bh] 114)).alloc (.cells #[.int .u64 bl, .int .u64 bh] 26)).alloc (.cells #[.int .u64 bl, .int .u64 bh] 114)) (w.heap.size + 1 + 1) (.int .u64 0) (.int .u64 0) 26) := ((((((At.newb _ (by simp) _ _ _).alloc _).alloc _).alloc _).alloc _).alloc _).alloc _
        have HA : Hid (At (((((((((w.alloc (.cells #[.int .u64 al, .int .u64 ah] 26)).alloc (.cells #[.int .u64 bl, .int .u64 bh] 26)).alloc (.cells #[.int .u64 0, .int .u64 0] 26)).alloc (.cells #[.int .u64 al, .int .u64 ah] 26)).alloc (.cells #[.int .u64 al, .int .u64 ah] 114)).alloc (.cells #[.int .u64 bl, .int .u64 bh] 26)).alloc (.cells #[.int .u64 bl, .int .u64 bh] 114)).alloc (.cells #[.int .u64 bl, .int .u64 bh] 26)).alloc (.cells #[.int .u64 bl, .int .u64 bh] 114)) pa (.int .u64 al) (.int .u64 ah) 26) := ((((((((hA.alloc _).alloc _).alloc _).alloc _).alloc _).alloc _).alloc _).alloc _).alloc _
        have HB : Hid (At (((((((((w.alloc (.cells #[.int .u64 al, .int .u64 ah] 26)).alloc (.cells #[.int .u64 bl, .int .u64 bh] 26)).alloc (.cells #[.int .u64 0, .int .u64 0] 26)).alloc (.cells #[.int .u64 al, .int .u64 ah] 26)).alloc (.cells #[.int .u64 al, .int .u64 ah] 114)).alloc (.cells #[.int .u64 bl, .int .u64 bh] 26)).alloc (.cells #[.int .u64 bl, .int .u64 bh] 114)).alloc (.cells #[.int .u64 bl, .int .u64 bh] 26)).alloc (.cells #[.int .u64 bl, .int .u64 bh] 114)) pb (.int .u64 bl) (.int .u64 bh) 26) := ((((((((hB.alloc _).alloc _).alloc _).alloc _).alloc _).alloc _).alloc _).alloc _).alloc _
        clear hA hB hn2
        go_enter Tryz.func187, Tryz.ntmps187
        go_wp2_with (first
          | (go_at_call 47; refine (none_u _ _ _).mono ?_; rintro e w' ⟨rfl, hw⟩; subst hw)
          | (go_at_call 54; refine (Has_u _ _ _ _).mono ?_; rintro e w' ⟨rfl, hw⟩; subst hw)
          | (go_at_call 175; refine (nothing_u _).mono ?_; rintro e w' ⟨rfl, hw⟩; subst hw)
          | (go_at_call 188; refine (div1 pa pb _ _ _ _ h1 h2 h3 h4 k1 k2 n1 n2 _ HA.out HB.out).mono ?_; rintro e w1 ⟨rfl, hg⟩; have hx := At.gr HX.out hg; have f0 := hx.f0 0; have f1 := hx.f0 1; have c0 := hx.c0; have c1 := hx.c1; have e0 := (hx.set (.int .u64 (al / bh)) (.int .u64 (ah / bl))).c0; have e1 := (hx.set (.int .u64 (al / bh)) (.int .u64 (ah / bl))).c1; clear hx))
        refine bodyPost_ret (by simp [results, Tryz.results187, go_sem, e0, e1]; try rfl) rfl ?_
        refine ⟨by simp [eN], Gr.set (Gr.set (Gr.trans ?_ hg) (by omega) _) (by omega) _⟩
        exact ⟨by go_grown, by go_grown⟩
      ·
        go_enter Tryz.func187, Tryz.ntmps187
        go_wp2_with (first
          | (go_at_call 47; refine (none_u _ _ _).mono ?_; rintro e w' ⟨rfl, hw⟩; subst hw)
          | (go_at_call 54; refine (Has_u _ _ _ _).mono ?_; rintro e w' ⟨rfl, hw⟩; subst hw)
          | (go_at_call 175; refine (nothing_u _).mono ?_; rintro e w' ⟨rfl, hw⟩; subst hw))
        go_returns
        exact ⟨by simp [eN], by go_grown, by go_grown⟩
    ·
      go_enter Tryz.func187, Tryz.ntmps187
      go_wp2_with (first
        | (go_at_call 47; refine (none_u _ _ _).mono ?_; rintro e w' ⟨rfl, hw⟩; subst hw)
        | (go_at_call 54; refine (Has_u _ _ _ _).mono ?_; rintro e w' ⟨rfl, hw⟩; subst hw)
        | (go_at_call 175; refine (nothing_u _).mono ?_; rintro e w' ⟨rfl, hw⟩; subst hw))
      go_returns
      exact ⟨by simp [eN], by go_grown, by go_grown⟩
  ·
    go_enter Tryz.func187, Tryz.ntmps187
    go_wp2_with (first
      | (go_at_call 47; refine (none_u _ _ _).mono ?_; rintro e w' ⟨rfl, hw⟩; subst hw)
      | (go_at_call 54; refine (Has_u _ _ _ _).mono ?_; rintro e w' ⟨rfl, hw⟩; subst hw)
      | (go_at_call 175; refine (nothing_u _).mono ?_; rintro e w' ⟨rfl, hw⟩; subst hw))
    go_returns
    exact ⟨by simp [eN], by go_grown, by go_grown⟩
set_option maxHeartbeats 2000000 in
theorem div_any (al ah bl bh : Int) (h1 : InU al) (h2 : InU ah) (h3 : InU bl) (h4 : InU bh) (w : World) : Calls Tryz.prog 126 #[.agg #[.int .u64 al, .int .u64 ah], .agg #[.int .u64 bl, .int .u64 bh]] w fun e w' => e = .returned (.agg #[.int .u64 (eN (decide (ah < al) || decide (bh < bl)) 1 (eN (decide (bl ≤ 0) && decide (0 ≤ bh)) 0 (al / bh))), .int .u64 (eN (decide (ah < al) || decide (bh < bl)) 0 (eN (decide (bl ≤ 0) && decide (0 ≤ bh)) ah (ah / bl)))]) ∧ Gr w w' := by
  have HA : Hid (At (((w.alloc (.cells #[.int .u64 al, .int .u64 ah] 26)).alloc (.cells #[.int .u64 bl, .int .u64 bh] 26)).alloc (.cells #[.int .u64 0, .int .u64 0] 26)) w.heap.size (.int .u64 al) (.int .u64 ah) 26) := ((At.newb _ rfl _ _ _).alloc _).alloc _
  have HB : Hid (At (((w.alloc (.cells #[.int .u64 al, .int .u64 ah] 26)).alloc (.cells #[.int .u64 bl, .int .u64 bh] 26)).alloc (.cells #[.int .u64 0, .int .u64 0] 26)) (w.heap.size + 1) (.int .u64 bl) (.int .u64 bh) 26) := (At.newb _ (by simp) _ _ _).alloc _
  have HX : Hid (At (((w.alloc (.cells #[.int .u64 al, .int .u64 ah] 26)).alloc (.cells #[.int .u64 bl, .int .u64 bh] 26)).alloc (.cells #[.int .u64 0, .int .u64 0] 26)) (w.heap.size + 1 + 1) (.int .u64 0) (.int .u64 0) 26) := At.newb _ (by simp) _ _ _
  go_enter Tryz.func126, Tryz.ntmps126
  go_wp2_with (first
    | (go_at_call 187; refine (divided_div _ _ _ _ _ _ h1 h2 h3 h4 _ HA.out HB.out).mono ?_; rintro e w1 ⟨rfl, hg⟩; have hx := At.gr HX.out hg; have f0 := hx.f0 0; have f1 := hx.f0 1; have c0 := hx.c0; have c1 := hx.c1; have e0 := (hx.set (.int .u64 (eN (decide (ah < al) || decide (bh < bl)) 1 (eN (decide (bl ≤ 0) && decide (0 ≤ bh)) 0 (al / bh)))) (.int .u64 (eN (decide (ah < al) || decide (bh < bl)) 0 (eN (decide (bl ≤ 0) && decide (0 ≤ bh)) ah (ah / bl))))).c0; have e1 := (hx.set (.int .u64 (eN (decide (ah < al) || decide (bh < bl)) 1 (eN (decide (bl ≤ 0) && decide (0 ≤ bh)) 0 (al / bh)))) (.int .u64 (eN (decide (ah < al) || decide (bh < bl)) 0 (eN (decide (bl ≤ 0) && decide (0 ≤ bh)) ah (ah / bl))))).c1; clear hx))
  refine bodyPost_ret (by simp [results, Tryz.results126, go_sem, e0, e1]; try rfl) rfl ?_
  refine ⟨rfl, Gr.set (Gr.set (Gr.trans ?_ hg) (by omega) _) (by omega) _⟩
  exact ⟨by go_grown, by go_grown⟩
set_option maxHeartbeats 4000000 in
theorem divided_mod (pa pb : Nat) (al ah bl bh : Int) (h1 : InU al) (h2 : InU ah) (h3 : InU bl) (h4 : InU bh) (w : World) (hA : At w pa (.int .u64 al) (.int .u64 ah) 26) (hB : At w pb (.int .u64 bl) (.int .u64 bh) 26) :
    Calls Tryz.prog 187 #[.agg #[.int .u64 al, .int .u64 ah], .agg #[.int .u64 bl, .int .u64 bh], .func (.func 191) #[] #[.pointer (some ⟨pa, 0, none⟩), .pointer (some ⟨pb, 0, none⟩)]] w fun e w' => e = .returned (.agg #[.int .u64 (eN (decide (ah < al) || decide (bh < bl)) 1 (eN (decide (bl ≤ 0) && decide (0 ≤ bh)) 0 (0))), .int .u64 (eN (decide (ah < al) || decide (bh < bl)) 0 (eN (decide (bl ≤ 0) && decide (0 ≤ bh)) ah (eN (decide (bh - 1 < ah)) (bh - 1) ah)))]) ∧ Gr w w' := by
  cases n1 : decide (ah < al)
  · cases n2 : decide (bh < bl)
    · cases z : (decide (bl ≤ 0) && decide (0 ≤ bh))
      · have hn2 := of_decide_eq_false n2
        have k1 : 0 < bl := by
          unfold InU at *
          rcases Int.lt_or_le 0 bl with h | h
          · exact h
          · rw [decide_eq_true h, decide_eq_true (show 0 ≤ bh by omega)] at z; cases z
        have k2 : 0 < bh := by omega
        have HX : Hid (At (((((((((w.alloc (.cells #[.int .u64 al, .int .u64 ah] 26)).alloc (.cells #[.int .u64 bl, .int .u64 bh] 26)).alloc (.cells #[.int .u64 0, .int .u64 0] 26)).alloc (.cells #[.int .u64 al, .int .u64 ah] 26)).alloc (.cells #[.int .u64 al, .int .u64 ah] 114)).alloc (.cells #[.int .u64 bl, .int .u64 bh] 26)).alloc (.cells #[.int .u64 bl, .int .u64 bh] 114)).alloc (.cells #[.int .u64 bl, .int .u64 bh] 26)).alloc (.cells #[.int .u64 bl, .int .u64 bh] 114)) (w.heap.size + 1 + 1) (.int .u64 0) (.int .u64 0) 26) := ((((((At.newb _ (by simp) _ _ _).alloc _).alloc _).alloc _).alloc _).alloc _).alloc _
        have HA : Hid (At (((((((((w.alloc (.cells #[.int .u64 al, .int .u64 ah] 26)).alloc (.cells #[.int .u64 bl, .int .u64 bh] 26)).alloc (.cells #[.int .u64 0, .int .u64 0] 26)).alloc (.cells #[.int .u64 al, .int .u64 ah] 26)).alloc (.cells #[.int .u64 al, .int .u64 ah] 114)).alloc (.cells #[.int .u64 bl, .int .u64 bh] 26)).alloc (.cells #[.int .u64 bl, .int .u64 bh] 114)).alloc (.cells #[.int .u64 bl, .int .u64 bh] 26)).alloc (.cells #[.int .u64 bl, .int .u64 bh] 114)) pa (.int .u64 al) (.int .u64 ah) 26) := ((((((((hA.alloc _).alloc _).alloc _).alloc _).alloc _).alloc _).alloc _).alloc _).alloc _
        have HB : Hid (At (((((((((w.alloc (.cells #[.int .u64 al, .int .u64 ah] 26)).alloc (.cells #[.int .u64 bl, .int .u64 bh] 26)).alloc (.cells #[.int .u64 0, .int .u64 0] 26)).alloc (.cells #[.int .u64 al, .int .u64 ah] 26)).alloc (.cells #[.int .u64 al, .int .u64 ah] 114)).alloc (.cells #[.int .u64 bl, .int .u64 bh] 26)).alloc (.cells #[.int .u64 bl, .int .u64 bh] 114)).alloc (.cells #[.int .u64 bl, .int .u64 bh] 26)).alloc (.cells #[.int .u64 bl, .int .u64 bh] 114)) pb (.int .u64 bl) (.int .u64 bh) 26) := ((((((((hB.alloc _).alloc _).alloc _).alloc _).alloc _).alloc _).alloc _).alloc _).alloc _
        clear hA hB hn2
        go_enter Tryz.func187, Tryz.ntmps187
        go_wp2_with (first
          | (go_at_call 47; refine (none_u _ _ _).mono ?_; rintro e w' ⟨rfl, hw⟩; subst hw)
          | (go_at_call 54; refine (Has_u _ _ _ _).mono ?_; rintro e w' ⟨rfl, hw⟩; subst hw)
          | (go_at_call 175; refine (nothing_u _).mono ?_; rintro e w' ⟨rfl, hw⟩; subst hw)
          | (go_at_call 191; refine (mod1 pa pb _ _ _ _ h1 h2 h3 h4 k2 _ HA.out HB.out).mono ?_; rintro e w1 ⟨rfl, hg⟩; have hx := At.gr HX.out hg; have f0 := hx.f0 0; have f1 := hx.f0 1; have c0 := hx.c0; have c1 := hx.c1; have e0 := (hx.set (.int .u64 (0)) (.int .u64 (eN (decide (bh - 1 < ah)) (bh - 1) ah))).c0; have e1 := (hx.set (.int .u64 (0)) (.int .u64 (eN (decide (bh - 1 < ah)) (bh - 1) ah))).c1; clear hx))
        refine bodyPost_ret (by simp [results, Tryz.results187, go_sem, e0, e1]; try rfl) rfl ?_
        refine ⟨by simp [eN], Gr.set (Gr.set (Gr.trans ?_ hg) (by omega) _) (by omega) _⟩
        exact ⟨by go_grown, by go_grown⟩
      ·
        go_enter Tryz.func187, Tryz.ntmps187
        go_wp2_with (first
          | (go_at_call 47; refine (none_u _ _ _).mono ?_; rintro e w' ⟨rfl, hw⟩; subst hw)
          | (go_at_call 54; refine (Has_u _ _ _ _).mono ?_; rintro e w' ⟨rfl, hw⟩; subst hw)
          | (go_at_call 175; refine (nothing_u _).mono ?_; rintro e w' ⟨rfl, hw⟩; subst hw))
        go_returns
        exact ⟨by simp [eN], by go_grown, by go_grown⟩
    ·
      go_enter Tryz.func187, Tryz.ntmps187
      go_wp2_with (first
        | (go_at_call 47; refine (none_u _ _ _).mono ?_; rintro e w' ⟨rfl, hw⟩; subst hw)
        | (go_at_call 54; refine (Has_u _ _ _ _).mono ?_; rintro e w' ⟨rfl, hw⟩; subst hw)
        | (go_at_call 175; refine (nothing_u _).mono ?_; rintro e w' ⟨rfl, hw⟩; subst hw))
      go_returns
      exact ⟨by simp [eN], by go_grown, by go_grown⟩
  ·
    go_enter Tryz.func187, Tryz.ntmps187
    go_wp2_with (first
      | (go_at_call 47; refine (none_u _ _ _).mono ?_; rintro e w' ⟨rfl, hw⟩; subst hw)
      | (go_at_call 54; refine (Has_u _ _ _ _).mono ?_; rintro e w' ⟨rfl, hw⟩; subst hw)
      | (go_at_call 175; refine (nothing_u _).mono ?_; rintro e w' ⟨rfl, hw⟩; subst hw))
    go_returns
    exact ⟨by simp [eN], by go_grown, by go_grown⟩
set_option maxHeartbeats 2000000 in
theorem mod_any (al ah bl bh : Int) (h1 : InU al) (h2 : InU ah) (h3 : InU bl) (h4 : InU bh) (w : World) : Calls Tryz.prog 128 #[.agg #[.int .u64 al, .int .u64 ah], .agg #[.int .u64 bl, .int .u64 bh]] w fun e w' => e = .returned (.agg #[.int .u64 (eN (decide (ah < al) || decide (bh < bl)) 1 (eN (decide (bl ≤ 0) && decide (0 ≤ bh)) 0 (0))), .int .u64 (eN (decide (ah < al) || decide (bh < bl)) 0 (eN (decide (bl ≤ 0) && decide (0 ≤ bh)) ah (eN (decide (bh - 1 < ah)) (bh - 1) ah)))]) ∧ Gr w w' := by
  have HA : Hid (At (((w.alloc (.cells #[.int .u64 al, .int .u64 ah] 26)).alloc (.cells #[.int .u64 bl, .int .u64 bh] 26)).alloc (.cells #[.int .u64 0, .int .u64 0] 26)) w.heap.size (.int .u64 al) (.int .u64 ah) 26) := ((At.newb _ rfl _ _ _).alloc _).alloc _
  have HB : Hid (At (((w.alloc (.cells #[.int .u64 al, .int .u64 ah] 26)).alloc (.cells #[.int .u64 bl, .int .u64 bh] 26)).alloc (.cells #[.int .u64 0, .int .u64 0] 26)) (w.heap.size + 1) (.int .u64 bl) (.int .u64 bh) 26) := (At.newb _ (by simp) _ _ _).alloc _
  have HX : Hid (At (((w.alloc (.cells #[.int .u64 al, .int .u64 ah] 26)).alloc (.cells #[.int .u64 bl, .int .u64 bh] 26)).alloc (.cells #[.int .u64 0, .int .u64 0] 26)) (w.heap.size + 1 + 1) (.int .u64 0) (.int .u64 0) 26) := At.newb _ (by simp) _ _ _
  go_enter Tryz.func128, Tryz.ntmps128
  go_wp2_with (first
    | (go_at_call 187; refine (divided_mod _ _ _ _ _ _ h1 h2 h3 h4 _ HA.out HB.out).mono ?_; rintro e w1 ⟨rfl, hg⟩; have hx := At.gr HX.out hg; have f0 := hx.f0 0; have f1 := hx.f0 1; have c0 := hx.c0; have c1 := hx.c1; have e0 := (hx.set (.int .u64 (eN (decide (ah < al) || decide (bh < bl)) 1 (eN (decide (bl ≤ 0) && decide (0 ≤ bh)) 0 (0)))) (.int .u64 (eN (decide (ah < al) || decide (bh < bl)) 0 (eN (decide (bl ≤ 0) && decide (0 ≤ bh)) ah (eN (decide (bh - 1 < ah)) (bh - 1) ah))))).c0; have e1 := (hx.set (.int .u64 (eN (decide (ah < al) || decide (bh < bl)) 1 (eN (decide (bl ≤ 0) && decide (0 ≤ bh)) 0 (0)))) (.int .u64 (eN (decide (ah < al) || decide (bh < bl)) 0 (eN (decide (bl ≤ 0) && decide (0 ≤ bh)) ah (eN (decide (bh - 1 < ah)) (bh - 1) ah))))).c1; clear hx))
  refine bodyPost_ret (by simp [results, Tryz.results128, go_sem, e0, e1]; try rfl) rfl ?_
  refine ⟨rfl, Gr.set (Gr.set (Gr.trans ?_ hg) (by omega) _) (by omega) _⟩
  exact ⟨by go_grown, by go_grown⟩
end Go.Proofs.YtekenpgagfmgkaaGreat
