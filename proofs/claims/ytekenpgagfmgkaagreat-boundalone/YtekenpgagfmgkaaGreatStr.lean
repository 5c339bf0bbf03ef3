/- Towards the statements of package span (layer 4): the generic functions straight and crossed, asked of each closure. -/
import Derived.Test.YtekenpgagfmgkaaGreatEnds
namespace Go.Proofs.YtekenpgagfmgkaaGreat
open Go.ChangeShapes Go.WideShapes Go.ChangeAt Go.RowKit
set_option linter.unusedVariables false
set_option maxRecDepth 20000

set_option maxHeartbeats 2000000 in
theorem straight_add (al ah bl bh wl wh : Int) (h1 : InU al) (h2 : InU ah) (h3 : InU bl) (h4 : InU bh) (w : World) : Calls Tryz.prog 205 #[.agg #[.int .u64 al, .int .u64 ah], .agg #[.int .u64 bl, .int .u64 bh], .agg #[.int .u64 wl, .int .u64 wh], .func (.func 206) #[] #[]] w fun e w' => e = .returned (.agg #[.int .u64 (eN (decide (ah < al) || decide (bh < bl)) 1 (eE (decide (al + bl ≤ 18446744073709551615)) (decide (ah + bh ≤ 18446744073709551615)) (IntKind.u64.wrap (al + bl)) (wl))), .int .u64 (eN (decide (ah < al) || decide (bh < bl)) 0 (eE (decide (al + bl ≤ 18446744073709551615)) (decide (ah + bh ≤ 18446744073709551615)) (IntKind.u64.wrap (ah + bh)) (wh)))]) ∧ Gr w w' := by
  cases e1 : decide (ah < al)
  · cases e2 : decide (bh < bl)
    · have hx : At ((((((w.alloc (.cells #[.int .u64 al, .int .u64 ah] 114)).alloc (.cells #[.int .u64 bl, .int .u64 bh] 114)).alloc (.cells #[.int .u64 wl, .int .u64 wh] 114))).alloc (.cells #[.int .u64 0, .int .u64 0] 114)).alloc (.cells #[.int .u64 al, .int .u64 ah] 114)) (w.heap.size + 1 + 1 + 1) (.int .u64 0) (.int .u64 0) 114 := (At.newb _ (by simp) _ _ _).alloc _
      replace hx := hx.alloc (.cells #[.int .u64 bl, .int .u64 bh] 114)
      have HX : Hid _ := hx
      clear hx
      go_enter Tryz.func205, Tryz.ntmps205
      go_wp2_with (first
        | (go_at_call 106; refine (empty_u _ _ _).mono ?_; rintro e w' ⟨rfl, hw⟩; subst hw)
        | (go_at_call 215; refine (ends_add _ _ _ _ _ _ (by assumption) (by assumption) (by assumption) (by assumption) _).mono ?_; rintro e w1 ⟨rfl, hg⟩; have hx := At.gr HX.out hg; have f0 := hx.f0 0; have f1 := hx.f0 1; have c0 := hx.c0; have c1 := hx.c1; have e0 := (hx.set (.int .u64 (eE (decide (al + bl ≤ 18446744073709551615)) (decide (ah + bh ≤ 18446744073709551615)) (IntKind.u64.wrap (al + bl)) (wl))) (.int .u64 (eE (decide (al + bl ≤ 18446744073709551615)) (decide (ah + bh ≤ 18446744073709551615)) (IntKind.u64.wrap (ah + bh)) (wh)))).c0; have e1 := (hx.set (.int .u64 (eE (decide (al + bl ≤ 18446744073709551615)) (decide (ah + bh ≤ 18446744073709551615)) (IntKind.u64.wrap (al + bl)) (wl))) (.int .u64 (eE (decide (al + bl ≤ 18446744073709551615)) (decide (ah + bh ≤ 18446744073709551615)) (IntKind.u64.wrap (ah + bh)) (wh)))).c1; clear hx))
      refine bodyPost_ret (by simp [results, Tryz.results205, go_sem, e0, e1]; try rfl) rfl ?_
      refine ⟨by simp [eN], Gr.set (Gr.set (Gr.trans ?_ hg) (by omega) _) (by omega) _⟩
      exact ⟨by go_grown, by go_grown⟩
    · go_enter Tryz.func205, Tryz.ntmps205
      go_wp2_with (first
        | (go_at_call 106; refine (empty_u _ _ _).mono ?_; rintro e w' ⟨rfl, hw⟩; subst hw)
        | (go_at_call 175; refine (nothing_u _).mono ?_; rintro e w' ⟨rfl, hw⟩; subst hw))
      go_returns
      exact ⟨by simp [eN], by go_grown, by go_grown⟩
  · go_enter Tryz.func205, Tryz.ntmps205
    go_wp2_with (first
      | (go_at_call 106; refine (empty_u _ _ _).mono ?_; rintro e w' ⟨rfl, hw⟩; subst hw)
      | (go_at_call 175; refine (nothing_u _).mono ?_; rintro e w' ⟨rfl, hw⟩; subst hw))
    go_returns
    exact ⟨by simp [eN], by go_grown, by go_grown⟩
set_option maxHeartbeats 2000000 in
theorem crossed_sub (al ah bl bh wl wh : Int) (h1 : InU al) (h2 : InU ah) (h3 : InU bl) (h4 : InU bh) (w : World) : Calls Tryz.prog 189 #[.agg #[.int .u64 al, .int .u64 ah], .agg #[.int .u64 bl, .int .u64 bh], .agg #[.int .u64 wl, .int .u64 wh], .func (.func 210) #[] #[]] w fun e w' => e = .returned (.agg #[.int .u64 (eN (decide (ah < al) || decide (bh < bl)) 1 (eE (decide (bh ≤ al)) (decide (bl ≤ ah)) (IntKind.u64.wrap (al - bh)) (wl))), .int .u64 (eN (decide (ah < al) || decide (bh < bl)) 0 (eE (decide (bh ≤ al)) (decide (bl ≤ ah)) (IntKind.u64.wrap (ah - bl)) (wh)))]) ∧ Gr w w' := by
  cases e1 : decide (ah < al)
  · cases e2 : decide (bh < bl)
    · have hx : At ((((((w.alloc (.cells #[.int .u64 al, .int .u64 ah] 114)).alloc (.cells #[.int .u64 bl, .int .u64 bh] 114)).alloc (.cells #[.int .u64 wl, .int .u64 wh] 114))).alloc (.cells #[.int .u64 0, .int .u64 0] 114)).alloc (.cells #[.int .u64 al, .int .u64 ah] 114)) (w.heap.size + 1 + 1 + 1) (.int .u64 0) (.int .u64 0) 114 := (At.newb _ (by simp) _ _ _).alloc _
      replace hx := hx.alloc (.cells #[.int .u64 bl, .int .u64 bh] 114)
      have HX : Hid _ := hx
      clear hx
      go_enter Tryz.func189, Tryz.ntmps189
      go_wp2_with (first
        | (go_at_call 106; refine (empty_u _ _ _).mono ?_; rintro e w' ⟨rfl, hw⟩; subst hw)
        | (go_at_call 215; refine (ends_sub _ _ _ _ _ _ (by assumption) (by assumption) (by assumption) (by assumption) _).mono ?_; rintro e w1 ⟨rfl, hg⟩; have hx := At.gr HX.out hg; have f0 := hx.f0 0; have f1 := hx.f0 1; have c0 := hx.c0; have c1 := hx.c1; have e0 := (hx.set (.int .u64 (eE (decide (bh ≤ al)) (decide (bl ≤ ah)) (IntKind.u64.wrap (al - bh)) (wl))) (.int .u64 (eE (decide (bh ≤ al)) (decide (bl ≤ ah)) (IntKind.u64.wrap (ah - bl)) (wh)))).c0; have e1 := (hx.set (.int .u64 (eE (decide (bh ≤ al)) (decide (bl ≤ ah)) (IntKind.u64.wrap (al - bh)) (wl))) (.int .u64 (eE (decide (bh ≤ al)) (decide (bl ≤ ah)) (IntKind.u64.wrap (ah - bl)) (wh)))).c1; clear hx))
      refine bodyPost_ret (by simp [results, Tryz.results189, go_sem, e0, e1]; try rfl) rfl ?_
      refine ⟨by simp [eN], Gr.set (Gr.set (Gr.trans ?_ hg) (by omega) _) (by omega) _⟩
      exact ⟨by go_grown, by go_grown⟩
    · go_enter Tryz.func189, Tryz.ntmps189
      go_wp2_with (first
        | (go_at_call 106; refine (empty_u _ _ _).mono ?_; rintro e w' ⟨rfl, hw⟩; subst hw)
        | (go_at_call 175; refine (nothing_u _).mono ?_; rintro e w' ⟨rfl, hw⟩; subst hw))
      go_returns
      exact ⟨by simp [eN], by go_grown, by go_grown⟩
  · go_enter Tryz.func189, Tryz.ntmps189
    go_wp2_with (first
      | (go_at_call 106; refine (empty_u _ _ _).mono ?_; rintro e w' ⟨rfl, hw⟩; subst hw)
      | (go_at_call 175; refine (nothing_u _).mono ?_; rintro e w' ⟨rfl, hw⟩; subst hw))
    go_returns
    exact ⟨by simp [eN], by go_grown, by go_grown⟩
set_option maxHeartbeats 2000000 in
theorem straight_mul (al ah bl bh wl wh : Int) (h1 : InU al) (h2 : InU ah) (h3 : InU bl) (h4 : InU bh) (w : World) : Calls Tryz.prog 205 #[.agg #[.int .u64 al, .int .u64 ah], .agg #[.int .u64 bl, .int .u64 bh], .agg #[.int .u64 wl, .int .u64 wh], .func (.func 213) #[] #[]] w fun e w' => e = .returned (.agg #[.int .u64 (eN (decide (ah < al) || decide (bh < bl)) 1 (eE (decide (al * bl ≤ 18446744073709551615)) (decide (ah * bh ≤ 18446744073709551615)) (IntKind.u64.wrap (al * bl)) (wl))), .int .u64 (eN (decide (ah < al) || decide (bh < bl)) 0 (eE (decide (al * bl ≤ 18446744073709551615)) (decide (ah * bh ≤ 18446744073709551615)) (IntKind.u64.wrap (ah * bh)) (wh)))]) ∧ Gr w w' := by
  cases e1 : decide (ah < al)
  · cases e2 : decide (bh < bl)
    · have hx : At ((((((w.alloc (.cells #[.int .u64 al, .int .u64 ah] 114)).alloc (.cells #[.int .u64 bl, .int .u64 bh] 114)).alloc (.cells #[.int .u64 wl, .int .u64 wh] 114))).alloc (.cells #[.int .u64 0, .int .u64 0] 114)).alloc (.cells #[.int .u64 al, .int .u64 ah] 114)) (w.heap.size + 1 + 1 + 1) (.int .u64 0) (.int .u64 0) 114 := (At.newb _ (by simp) _ _ _).alloc _
      replace hx := hx.alloc (.cells #[.int .u64 bl, .int .u64 bh] 114)
      have HX : Hid _ := hx
      clear hx
      go_enter Tryz.func205, Tryz.ntmps205
      go_wp2_with (first
        | (go_at_call 106; refine (empty_u _ _ _).mono ?_; rintro e w' ⟨rfl, hw⟩; subst hw)
        | (go_at_call 215; refine (ends_mul _ _ _ _ _ _ (by assumption) (by assumption) (by assumption) (by assumption) _).mono ?_; rintro e w1 ⟨rfl, hg⟩; have hx := At.gr HX.out hg; have f0 := hx.f0 0; have f1 := hx.f0 1; have c0 := hx.c0; have c1 := hx.c1; have e0 := (hx.set (.int .u64 (eE (decide (al * bl ≤ 18446744073709551615)) (decide (ah * bh ≤ 18446744073709551615)) (IntKind.u64.wrap (al * bl)) (wl))) (.int .u64 (eE (decide (al * bl ≤ 18446744073709551615)) (decide (ah * bh ≤ 18446744073709551615)) (IntKind.u64.wrap (ah * bh)) (wh)))).c0; have e1 := (hx.set (.int .u64 (eE (decide (al * bl ≤ 18446744073709551615)) (decide (ah * bh ≤ 18446744073709551615)) (IntKind.u64.wrap (al * bl)) (wl))) (.int .u64 (eE (decide (al * bl ≤ 18446744073709551615)) (decide (ah * bh ≤ 18446744073709551615)) (IntKind.u64.wrap (ah * bh)) (wh)))).c1; clear hx))
      refine bodyPost_ret (by simp [results, Tryz.results205, go_sem, e0, e1]; try rfl) rfl ?_
      refine ⟨by simp [eN], Gr.set (Gr.set (Gr.trans ?_ hg) (by omega) _) (by omega) _⟩
      exact ⟨by go_grown, by go_grown⟩
    · go_enter Tryz.func205, Tryz.ntmps205
      go_wp2_with (first
        | (go_at_call 106; refine (empty_u _ _ _).mono ?_; rintro e w' ⟨rfl, hw⟩; subst hw)
        | (go_at_call 175; refine (nothing_u _).mono ?_; rintro e w' ⟨rfl, hw⟩; subst hw))
      go_returns
      exact ⟨by simp [eN], by go_grown, by go_grown⟩
  · go_enter Tryz.func205, Tryz.ntmps205
    go_wp2_with (first
      | (go_at_call 106; refine (empty_u _ _ _).mono ?_; rintro e w' ⟨rfl, hw⟩; subst hw)
      | (go_at_call 175; refine (nothing_u _).mono ?_; rintro e w' ⟨rfl, hw⟩; subst hw))
    go_returns
    exact ⟨by simp [eN], by go_grown, by go_grown⟩
set_option maxHeartbeats 2000000 in
theorem crossed_div (al ah bl bh wl wh : Int) (h1 : InU al) (h2 : InU ah) (h3 : InU bl) (h4 : InU bh) (k1 : 0 < bh) (k2 : 0 < bl) (w : World) : Calls Tryz.prog 189 #[.agg #[.int .u64 al, .int .u64 ah], .agg #[.int .u64 bl, .int .u64 bh], .agg #[.int .u64 wl, .int .u64 wh], .func (.func 190) #[] #[]] w fun e w' => e = .returned (.agg #[.int .u64 (eN (decide (ah < al) || decide (bh < bl)) 1 (eE (true) (true) (al / bh) (wl))), .int .u64 (eN (decide (ah < al) || decide (bh < bl)) 0 (eE (true) (true) (ah / bl) (wh)))]) ∧ Gr w w' := by
  cases e1 : decide (ah < al)
  · cases e2 : decide (bh < bl)
    · have hx : At ((((((w.alloc (.cells #[.int .u64 al, .int .u64 ah] 114)).alloc (.cells #[.int .u64 bl, .int .u64 bh] 114)).alloc (.cells #[.int .u64 wl, .int .u64 wh] 114))).alloc (.cells #[.int .u64 0, .int .u64 0] 114)).alloc (.cells #[.int .u64 al, .int .u64 ah] 114)) (w.heap.size + 1 + 1 + 1) (.int .u64 0) (.int .u64 0) 114 := (At.newb _ (by simp) _ _ _).alloc _
      replace hx := hx.alloc (.cells #[.int .u64 bl, .int .u64 bh] 114)
      have HX : Hid _ := hx
      clear hx
      go_enter Tryz.func189, Tryz.ntmps189
      go_wp2_with (first
        | (go_at_call 106; refine (empty_u _ _ _).mono ?_; rintro e w' ⟨rfl, hw⟩; subst hw)
        | (go_at_call 215; refine (ends_div _ _ _ _ _ _ (by assumption) (by assumption) (by assumption) (by assumption) (by assumption) (by assumption) _).mono ?_; rintro e w1 ⟨rfl, hg⟩; have hx := At.gr HX.out hg; have f0 := hx.f0 0; have f1 := hx.f0 1; have c0 := hx.c0; have c1 := hx.c1; have e0 := (hx.set (.int .u64 (eE (true) (true) (al / bh) (wl))) (.int .u64 (eE (true) (true) (ah / bl) (wh)))).c0; have e1 := (hx.set (.int .u64 (eE (true) (true) (al / bh) (wl))) (.int .u64 (eE (true) (true) (ah / bl) (wh)))).c1; clear hx))
      refine bodyPost_ret (by simp [results, Tryz.results189, go_sem, e0, e1]; try rfl) rfl ?_
      refine ⟨by simp [eN], Gr.set (Gr.set (Gr.trans ?_ hg) (by omega) _) (by omega) _⟩
      exact ⟨by go_grown, by go_grown⟩
    · go_enter Tryz.func189, Tryz.ntmps189
      go_wp2_with (first
        | (go_at_call 106; refine (empty_u _ _ _).mono ?_; rintro e w' ⟨rfl, hw⟩; subst hw)
        | (go_at_call 175; refine (nothing_u _).mono ?_; rintro e w' ⟨rfl, hw⟩; subst hw))
      go_returns
      exact ⟨by simp [eN], by go_grown, by go_grown⟩
  · go_enter Tryz.func189, Tryz.ntmps189
    go_wp2_with (first
      | (go_at_call 106; refine (empty_u _ _ _).mono ?_; rintro e w' ⟨rfl, hw⟩; subst hw)
      | (go_at_call 175; refine (nothing_u _).mono ?_; rintro e w' ⟨rfl, hw⟩; subst hw))
    go_returns
    exact ⟨by simp [eN], by go_grown, by go_grown⟩
set_option maxHeartbeats 2000000 in
theorem straight_shl (al ah bl bh wl wh : Int) (h1 : InU al) (h2 : InU ah) (h3 : InU bl) (h4 : InU bh) (n : Nat) (c : Addr) (w : World) (hn : w.cell? c = some (.int .u64 (n : Int))) : Calls Tryz.prog 205 #[.agg #[.int .u64 al, .int .u64 ah], .agg #[.int .u64 bl, .int .u64 bh], .agg #[.int .u64 wl, .int .u64 wh], .func (.func 216) #[] #[.pointer (some c)]] w fun e w' => e = .returned (.agg #[.int .u64 (eN (decide (ah < al) || decide (bh < bl)) 1 (eE ((decide (n ≤ 63) && decide (al * 2 ^ n ≤ 18446744073709551615))) ((decide (n ≤ 63) && decide (ah * 2 ^ n ≤ 18446744073709551615))) (IntKind.u64.wrap (al * 2 ^ min n 64)) (wl))), .int .u64 (eN (decide (ah < al) || decide (bh < bl)) 0 (eE ((decide (n ≤ 63) && decide (al * 2 ^ n ≤ 18446744073709551615))) ((decide (n ≤ 63) && decide (ah * 2 ^ n ≤ 18446744073709551615))) (IntKind.u64.wrap (ah * 2 ^ min n 64)) (wh)))]) ∧ Gr w w' := by
  cases e1 : decide (ah < al)
  · cases e2 : decide (bh < bl)
    · have hx : At ((((((w.alloc (.cells #[.int .u64 al, .int .u64 ah] 114)).alloc (.cells #[.int .u64 bl, .int .u64 bh] 114)).alloc (.cells #[.int .u64 wl, .int .u64 wh] 114))).alloc (.cells #[.int .u64 0, .int .u64 0] 114)).alloc (.cells #[.int .u64 al, .int .u64 ah] 114)) (w.heap.size + 1 + 1 + 1) (.int .u64 0) (.int .u64 0) 114 := (At.newb _ (by simp) _ _ _).alloc _
      replace hx := hx.alloc (.cells #[.int .u64 bl, .int .u64 bh] 114)
      have HX : Hid _ := hx
      clear hx
      go_enter Tryz.func205, Tryz.ntmps205
      go_wp2_with (first
        | (go_at_call 106; refine (empty_u _ _ _).mono ?_; rintro e w' ⟨rfl, hw⟩; subst hw)
        | (go_at_call 215; refine (ends_shl _ _ _ _ _ _ (by assumption) (by assumption) (by assumption) (by assumption) n c _ (by repeat (with_reducible (first | assumption | apply cell_al | apply cell_dr)))).mono ?_; rintro e w1 ⟨rfl, hg⟩; have hx := At.gr HX.out hg; have f0 := hx.f0 0; have f1 := hx.f0 1; have c0 := hx.c0; have c1 := hx.c1; have e0 := (hx.set (.int .u64 (eE ((decide (n ≤ 63) && decide (al * 2 ^ n ≤ 18446744073709551615))) ((decide (n ≤ 63) && decide (ah * 2 ^ n ≤ 18446744073709551615))) (IntKind.u64.wrap (al * 2 ^ min n 64)) (wl))) (.int .u64 (eE ((decide (n ≤ 63) && decide (al * 2 ^ n ≤ 18446744073709551615))) ((decide (n ≤ 63) && decide (ah * 2 ^ n ≤ 18446744073709551615))) (IntKind.u64.wrap (ah * 2 ^ min n 64)) (wh)))).c0; have e1 := (hx.set (.int .u64 (eE ((decide (n ≤ 63) && decide (al * 2 ^ n ≤ 18446744073709551615))) ((decide (n ≤ 63) && decide (ah * 2 ^ n ≤ 18446744073709551615))) (IntKind.u64.wrap (al * 2 ^ min n 64)) (wl))) (.int .u64 (eE ((decide (n ≤ 63) && decide (al * 2 ^ n ≤ 18446744073709551615))) ((decide (n ≤ 63) && decide (ah * 2 ^ n ≤ 18446744073709551615))) (IntKind.u64.wrap (ah * 2 ^ min n 64)) (wh)))).c1; clear hx))
      refine bodyPost_ret (by simp [results, Tryz.results205, go_sem, e0, e1]; try rfl) rfl ?_
      refine ⟨by simp [eN], Gr.set (Gr.set (Gr.trans ?_ hg) (by omega) _) (by omega) _⟩
      exact ⟨by go_grown, by go_grown⟩
    · go_enter Tryz.func205, Tryz.ntmps205
      go_wp2_with (first
        | (go_at_call 106; refine (empty_u _ _ _).mono ?_; rintro e w' ⟨rfl, hw⟩; subst hw)
        | (go_at_call 175; refine (nothing_u _).mono ?_; rintro e w' ⟨rfl, hw⟩; subst hw))
      go_returns
      exact ⟨by simp [eN], by go_grown, by go_grown⟩
  · go_enter Tryz.func205, Tryz.ntmps205
    go_wp2_with (first
      | (go_at_call 106; refine (empty_u _ _ _).mono ?_; rintro e w' ⟨rfl, hw⟩; subst hw)
      | (go_at_call 175; refine (nothing_u _).mono ?_; rintro e w' ⟨rfl, hw⟩; subst hw))
    go_returns
    exact ⟨by simp [eN], by go_grown, by go_grown⟩
set_option maxHeartbeats 2000000 in
theorem straight_shr (al ah bl bh wl wh : Int) (h1 : InU al) (h2 : InU ah) (h3 : InU bl) (h4 : InU bh) (n : Nat) (c : Addr) (w : World) (hn : w.cell? c = some (.int .u64 (n : Int))) : Calls Tryz.prog 205 #[.agg #[.int .u64 al, .int .u64 ah], .agg #[.int .u64 bl, .int .u64 bh], .agg #[.int .u64 wl, .int .u64 wh], .func (.func 217) #[] #[.pointer (some c)]] w fun e w' => e = .returned (.agg #[.int .u64 (eN (decide (ah < al) || decide (bh < bl)) 1 (eE (true) (true) (al / 2 ^ min n 64) (wl))), .int .u64 (eN (decide (ah < al) || decide (bh < bl)) 0 (eE (true) (true) (ah / 2 ^ min n 64) (wh)))]) ∧ Gr w w' := by
  cases e1 : decide (ah < al)
  · cases e2 : decide (bh < bl)
    · have hx : At ((((((w.alloc (.cells #[.int .u64 al, .int .u64 ah] 114)).alloc (.cells #[.int .u64 bl, .int .u64 bh] 114)).alloc (.cells #[.int .u64 wl, .int .u64 wh] 114))).alloc (.cells #[.int .u64 0, .int .u64 0] 114)).alloc (.cells #[.int .u64 al, .int .u64 ah] 114)) (w.heap.size + 1 + 1 + 1) (.int .u64 0) (.int .u64 0) 114 := (At.newb _ (by simp) _ _ _).alloc _
      replace hx := hx.alloc (.cells #[.int .u64 bl, .int .u64 bh] 114)
      have HX : Hid _ := hx
      clear hx
      go_enter Tryz.func205, Tryz.ntmps205
      go_wp2_with (first
        | (go_at_call 106; refine (empty_u _ _ _).mono ?_; rintro e w' ⟨rfl, hw⟩; subst hw)
        | (go_at_call 215; refine (ends_shr _ _ _ _ _ _ (by assumption) (by assumption) (by assumption) (by assumption) n c _ (by repeat (with_reducible (first | assumption | apply cell_al | apply cell_dr)))).mono ?_; rintro e w1 ⟨rfl, hg⟩; have hx := At.gr HX.out hg; have f0 := hx.f0 0; have f1 := hx.f0 1; have c0 := hx.c0; have c1 := hx.c1; have e0 := (hx.set (.int .u64 (eE (true) (true) (al / 2 ^ min n 64) (wl))) (.int .u64 (eE (true) (true) (ah / 2 ^ min n 64) (wh)))).c0; have e1 := (hx.set (.int .u64 (eE (true) (true) (al / 2 ^ min n 64) (wl))) (.int .u64 (eE (true) (true) (ah / 2 ^ min n 64) (wh)))).c1; clear hx))
      refine bodyPost_ret (by simp [results, Tryz.results205, go_sem, e0, e1]; try rfl) rfl ?_
      refine ⟨by simp [eN], Gr.set (Gr.set (Gr.trans ?_ hg) (by omega) _) (by omega) _⟩
      exact ⟨by go_grown, by go_grown⟩
    · go_enter Tryz.func205, Tryz.ntmps205
      go_wp2_with (first
        | (go_at_call 106; refine (empty_u _ _ _).mono ?_; rintro e w' ⟨rfl, hw⟩; subst hw)
        | (go_at_call 175; refine (nothing_u _).mono ?_; rintro e w' ⟨rfl, hw⟩; subst hw))
      go_returns
      exact ⟨by simp [eN], by go_grown, by go_grown⟩
  · go_enter Tryz.func205, Tryz.ntmps205
    go_wp2_with (first
      | (go_at_call 106; refine (empty_u _ _ _).mono ?_; rintro e w' ⟨rfl, hw⟩; subst hw)
      | (go_at_call 175; refine (nothing_u _).mono ?_; rintro e w' ⟨rfl, hw⟩; subst hw))
    go_returns
    exact ⟨by simp [eN], by go_grown, by go_grown⟩
set_option maxHeartbeats 2000000 in
theorem straight_plus (al ah bl bh wl wh : Int) (h1 : InS al) (h2 : InS ah) (h3 : InS bl) (h4 : InS bh) (w : World) : Calls Tryz.prog 208 #[.agg #[.int .i64 al, .int .i64 ah], .agg #[.int .i64 bl, .int .i64 bh], .agg #[.int .i64 wl, .int .i64 wh], .func (.func 209) #[] #[]] w fun e w' => e = .returned (.agg #[.int .i64 (eN (decide (ah < al) || decide (bh < bl)) 1 (eE (decide (-9223372036854775808 ≤ al + bl) && decide (al + bl ≤ 9223372036854775807)) (decide (-9223372036854775808 ≤ ah + bh) && decide (ah + bh ≤ 9223372036854775807)) (wrap64 (al + bl)) (wl))), .int .i64 (eN (decide (ah < al) || decide (bh < bl)) 0 (eE (decide (-9223372036854775808 ≤ al + bl) && decide (al + bl ≤ 9223372036854775807)) (decide (-9223372036854775808 ≤ ah + bh) && decide (ah + bh ≤ 9223372036854775807)) (wrap64 (ah + bh)) (wh)))]) ∧ Gr w w' := by
  cases e1 : decide (ah < al)
  · cases e2 : decide (bh < bl)
    · have hx : At ((((((w.alloc (.cells #[.int .i64 al, .int .i64 ah] 116)).alloc (.cells #[.int .i64 bl, .int .i64 bh] 116)).alloc (.cells #[.int .i64 wl, .int .i64 wh] 116))).alloc (.cells #[.int .i64 0, .int .i64 0] 116)).alloc (.cells #[.int .i64 al, .int .i64 ah] 116)) (w.heap.size + 1 + 1 + 1) (.int .i64 0) (.int .i64 0) 116 := (At.newb _ (by simp) _ _ _).alloc _
      replace hx := hx.alloc (.cells #[.int .i64 bl, .int .i64 bh] 116)
      have HX : Hid _ := hx
      clear hx
      go_enter Tryz.func208, Tryz.ntmps208
      go_wp2_with (first
        | (go_at_call 107; refine (empty_s _ _ _).mono ?_; rintro e w' ⟨rfl, hw⟩; subst hw)
        | (go_at_call 220; refine (ends_plus _ _ _ _ _ _ (by assumption) (by assumption) (by assumption) (by assumption) _).mono ?_; rintro e w1 ⟨rfl, hg⟩; have hx := At.gr HX.out hg; have f0 := hx.f0 0; have f1 := hx.f0 1; have c0 := hx.c0; have c1 := hx.c1; have e0 := (hx.set (.int .i64 (eE (decide (-9223372036854775808 ≤ al + bl) && decide (al + bl ≤ 9223372036854775807)) (decide (-9223372036854775808 ≤ ah + bh) && decide (ah + bh ≤ 9223372036854775807)) (wrap64 (al + bl)) (wl))) (.int .i64 (eE (decide (-9223372036854775808 ≤ al + bl) && decide (al + bl ≤ 9223372036854775807)) (decide (-9223372036854775808 ≤ ah + bh) && decide (ah + bh ≤ 9223372036854775807)) (wrap64 (ah + bh)) (wh)))).c0; have e1 := (hx.set (.int .i64 (eE (decide (-9223372036854775808 ≤ al + bl) && decide (al + bl ≤ 9223372036854775807)) (decide (-9223372036854775808 ≤ ah + bh) && decide (ah + bh ≤ 9223372036854775807)) (wrap64 (al + bl)) (wl))) (.int .i64 (eE (decide (-9223372036854775808 ≤ al + bl) && decide (al + bl ≤ 9223372036854775807)) (decide (-9223372036854775808 ≤ ah + bh) && decide (ah + bh ≤ 9223372036854775807)) (wrap64 (ah + bh)) (wh)))).c1; clear hx))
      refine bodyPost_ret (by simp [results, Tryz.results208, go_sem, e0, e1]; try rfl) rfl ?_
      refine ⟨by simp [eN], Gr.set (Gr.set (Gr.trans ?_ hg) (by omega) _) (by omega) _⟩
      exact ⟨by go_grown, by go_grown⟩
    · go_enter Tryz.func208, Tryz.ntmps208
      go_wp2_with (first
        | (go_at_call 107; refine (empty_s _ _ _).mono ?_; rintro e w' ⟨rfl, hw⟩; subst hw)
        | (go_at_call 176; refine (nothing_s _).mono ?_; rintro e w' ⟨rfl, hw⟩; subst hw))
      go_returns
      exact ⟨by simp [eN], by go_grown, by go_grown⟩
  · go_enter Tryz.func208, Tryz.ntmps208
    go_wp2_with (first
      | (go_at_call 107; refine (empty_s _ _ _).mono ?_; rintro e w' ⟨rfl, hw⟩; subst hw)
      | (go_at_call 176; refine (nothing_s _).mono ?_; rintro e w' ⟨rfl, hw⟩; subst hw))
    go_returns
    exact ⟨by simp [eN], by go_grown, by go_grown⟩
set_option maxHeartbeats 2000000 in
theorem crossed_minus (al ah bl bh wl wh : Int) (h1 : InS al) (h2 : InS ah) (h3 : InS bl) (h4 : InS bh) (w : World) : Calls Tryz.prog 211 #[.agg #[.int .i64 al, .int .i64 ah], .agg #[.int .i64 bl, .int .i64 bh], .agg #[.int .i64 wl, .int .i64 wh], .func (.func 212) #[] #[]] w fun e w' => e = .returned (.agg #[.int .i64 (eN (decide (ah < al) || decide (bh < bl)) 1 (eE (decide (-9223372036854775808 ≤ al - bh) && decide (al - bh ≤ 9223372036854775807)) (decide (-9223372036854775808 ≤ ah - bl) && decide (ah - bl ≤ 9223372036854775807)) (wrap64 (al - bh)) (wl))), .int .i64 (eN (decide (ah < al) || decide (bh < bl)) 0 (eE (decide (-9223372036854775808 ≤ al - bh) && decide (al - bh ≤ 9223372036854775807)) (decide (-9223372036854775808 ≤ ah - bl) && decide (ah - bl ≤ 9223372036854775807)) (wrap64 (ah - bl)) (wh)))]) ∧ Gr w w' := by
  cases e1 : decide (ah < al)
  · cases e2 : decide (bh < bl)
    · have hx : At ((((((w.alloc (.cells #[.int .i64 al, .int .i64 ah] 116)).alloc (.cells #[.int .i64 bl, .int .i64 bh] 116)).alloc (.cells #[.int .i64 wl, .int .i64 wh] 116))).alloc (.cells #[.int .i64 0, .int .i64 0] 116)).alloc (.cells #[.int .i64 al, .int .i64 ah] 116)) (w.heap.size + 1 + 1 + 1) (.int .i64 0) (.int .i64 0) 116 := (At.newb _ (by simp) _ _ _).alloc _
      replace hx := hx.alloc (.cells #[.int .i64 bl, .int .i64 bh] 116)
      have HX : Hid _ := hx
      clear hx
      go_enter Tryz.func211, Tryz.ntmps211
      go_wp2_with (first
        | (go_at_call 107; refine (empty_s _ _ _).mono ?_; rintro e w' ⟨rfl, hw⟩; subst hw)
        | (go_at_call 220; refine (ends_minus _ _ _ _ _ _ (by assumption) (by assumption) (by assumption) (by assumption) _).mono ?_; rintro e w1 ⟨rfl, hg⟩; have hx := At.gr HX.out hg; have f0 := hx.f0 0; have f1 := hx.f0 1; have c0 := hx.c0; have c1 := hx.c1; have e0 := (hx.set (.int .i64 (eE (decide (-9223372036854775808 ≤ al - bh) && decide (al - bh ≤ 9223372036854775807)) (decide (-9223372036854775808 ≤ ah - bl) && decide (ah - bl ≤ 9223372036854775807)) (wrap64 (al - bh)) (wl))) (.int .i64 (eE (decide (-9223372036854775808 ≤ al - bh) && decide (al - bh ≤ 9223372036854775807)) (decide (-9223372036854775808 ≤ ah - bl) && decide (ah - bl ≤ 9223372036854775807)) (wrap64 (ah - bl)) (wh)))).c0; have e1 := (hx.set (.int .i64 (eE (decide (-9223372036854775808 ≤ al - bh) && decide (al - bh ≤ 9223372036854775807)) (decide (-9223372036854775808 ≤ ah - bl) && decide (ah - bl ≤ 9223372036854775807)) (wrap64 (al - bh)) (wl))) (.int .i64 (eE (decide (-9223372036854775808 ≤ al - bh) && decide (al - bh ≤ 9223372036854775807)) (decide (-9223372036854775808 ≤ ah - bl) && decide (ah - bl ≤ 9223372036854775807)) (wrap64 (ah - bl)) (wh)))).c1; clear hx))
      refine bodyPost_ret (by simp [results, Tryz.results211, go_sem, e0, e1]; try rfl) rfl ?_
      refine ⟨by simp [eN], Gr.set (Gr.set (Gr.trans ?_ hg) (by omega) _) (by omega) _⟩
      exact ⟨by go_grown, by go_grown⟩
    · go_enter Tryz.func211, Tryz.ntmps211
      go_wp2_with (first
        | (go_at_call 107; refine (empty_s _ _ _).mono ?_; rintro e w' ⟨rfl, hw⟩; subst hw)
        | (go_at_call 176; refine (nothing_s _).mono ?_; rintro e w' ⟨rfl, hw⟩; subst hw))
      go_returns
      exact ⟨by simp [eN], by go_grown, by go_grown⟩
  · go_enter Tryz.func211, Tryz.ntmps211
    go_wp2_with (first
      | (go_at_call 107; refine (empty_s _ _ _).mono ?_; rintro e w' ⟨rfl, hw⟩; subst hw)
      | (go_at_call 176; refine (nothing_s _).mono ?_; rintro e w' ⟨rfl, hw⟩; subst hw))
    go_returns
    exact ⟨by simp [eN], by go_grown, by go_grown⟩
set_option maxHeartbeats 2000000 in
theorem straight_sar (al ah bl bh wl wh : Int) (h1 : InS al) (h2 : InS ah) (h3 : InS bl) (h4 : InS bh) (n : Nat) (c : Addr) (w : World) (hn : w.cell? c = some (.int .u64 (n : Int))) : Calls Tryz.prog 208 #[.agg #[.int .i64 al, .int .i64 ah], .agg #[.int .i64 bl, .int .i64 bh], .agg #[.int .i64 wl, .int .i64 wh], .func (.func 219) #[] #[.pointer (some c)]] w fun e w' => e = .returned (.agg #[.int .i64 (eN (decide (ah < al) || decide (bh < bl)) 1 (eE (true) (true) (al / 2 ^ min n 63) (wl))), .int .i64 (eN (decide (ah < al) || decide (bh < bl)) 0 (eE (true) (true) (ah / 2 ^ min n 63) (wh)))]) ∧ Gr w w' := by
  cases e1 : decide (ah < al)
  · cases e2 : decide (bh < bl)
    · have hx : At ((((((w.alloc (.cells #[.int .i64 al, .int .i64 ah] 116)).alloc (.cells #[.int .i64 bl, .int .i64 bh] 116)).alloc (.cells #[.int .i64 wl, .int .i64 wh] 116))).alloc (.cells #[.int .i64 0, .int .i64 0] 116)).alloc (.cells #[.int .i64 al, .int .i64 ah] 116)) (w.heap.size + 1 + 1 + 1) (.int .i64 0) (.int .i64 0) 116 := (At.newb _ (by simp) _ _ _).alloc _
      replace hx := hx.alloc (.cells #[.int .i64 bl, .int .i64 bh] 116)
      have HX : Hid _ := hx
      clear hx
      go_enter Tryz.func208, Tryz.ntmps208
      go_wp2_with (first
        | (go_at_call 107; refine (empty_s _ _ _).mono ?_; rintro e w' ⟨rfl, hw⟩; subst hw)
        | (go_at_call 220; refine (ends_sar _ _ _ _ _ _ (by assumption) (by assumption) (by assumption) (by assumption) n c _ (by repeat (with_reducible (first | assumption | apply cell_al | apply cell_dr)))).mono ?_; rintro e w1 ⟨rfl, hg⟩; have hx := At.gr HX.out hg; have f0 := hx.f0 0; have f1 := hx.f0 1; have c0 := hx.c0; have c1 := hx.c1; have e0 := (hx.set (.int .i64 (eE (true) (true) (al / 2 ^ min n 63) (wl))) (.int .i64 (eE (true) (true) (ah / 2 ^ min n 63) (wh)))).c0; have e1 := (hx.set (.int .i64 (eE (true) (true) (al / 2 ^ min n 63) (wl))) (.int .i64 (eE (true) (true) (ah / 2 ^ min n 63) (wh)))).c1; clear hx))
      refine bodyPost_ret (by simp [results, Tryz.results208, go_sem, e0, e1]; try rfl) rfl ?_
      refine ⟨by simp [eN], Gr.set (Gr.set (Gr.trans ?_ hg) (by omega) _) (by omega) _⟩
      exact ⟨by go_grown, by go_grown⟩
    · go_enter Tryz.func208, Tryz.ntmps208
      go_wp2_with (first
        | (go_at_call 107; refine (empty_s _ _ _).mono ?_; rintro e w' ⟨rfl, hw⟩; subst hw)
        | (go_at_call 176; refine (nothing_s _).mono ?_; rintro e w' ⟨rfl, hw⟩; subst hw))
      go_returns
      exact ⟨by simp [eN], by go_grown, by go_grown⟩
  · go_enter Tryz.func208, Tryz.ntmps208
    go_wp2_with (first
      | (go_at_call 107; refine (empty_s _ _ _).mono ?_; rintro e w' ⟨rfl, hw⟩; subst hw)
      | (go_at_call 176; refine (nothing_s _).mono ?_; rintro e w' ⟨rfl, hw⟩; subst hw))
    go_returns
    exact ⟨by simp [eN], by go_grown, by go_grown⟩
end Go.Proofs.YtekenpgagfmgkaaGreat
