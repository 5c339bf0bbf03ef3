/- Towards the statements of package span (layer 4): sums, differences, products and shifts, of spans and of reaches. -/
import Derived.Test.YtekenpgagfmgkaaGreatStr
namespace Go.Proofs.YtekenpgagfmgkaaGreat
open Go.ChangeShapes Go.WideShapes Go.ChangeAt Go.RowKit
set_option linter.unusedVariables false
set_option maxRecDepth 20000

theorem cell_of {w : World} {b : Nat} {v : Value} {t : TypeId} (h : w.heap[b]? = some (.cells #[v] t)) : w.cell? ⟨b, 0, none⟩ = some v := by
  simp [World.cell?, h]
theorem cell_new (w : World) (v : Value) (t : TypeId) {b : Nat} (hb : b = w.heap.size) : (w.alloc (.cells #[v] t)).cell? ⟨b, 0, none⟩ = some v := by
  subst hb
  have h : (w.alloc (.cells #[v] t)).heap[w.heap.size]? = some (.cells #[v] t) := by
    show (w.heap.push _)[w.heap.size]? = _
    simp
  exact cell_of h
theorem cell_st {w : World} {a p : Addr} {v u : Value} (hp : p.block ≠ a.block) (h : w.cell? a = some v) : (w.setCell p u).cell? a = some v := by
  rw [World.cell?_setCell_far _ _ _ _ hp, h]
set_option maxHeartbeats 2000000 in
theorem add_any (al ah bl bh : Int) (h1 : InU al) (h2 : InU ah) (h3 : InU bl) (h4 : InU bh) (w : World) : Calls Tryz.prog 178 #[.agg #[.int .u64 al, .int .u64 ah], .agg #[.int .u64 bl, .int .u64 bh]] w fun e w' => e = .returned (.agg #[.int .u64 (eN (decide (ah < al) || decide (bh < bl)) 1 (eE (decide (al + bl ≤ 18446744073709551615)) (decide (ah + bh ≤ 18446744073709551615)) (IntKind.u64.wrap (al + bl)) (0))), .int .u64 (eN (decide (ah < al) || decide (bh < bl)) 0 (eE (decide (al + bl ≤ 18446744073709551615)) (decide (ah + bh ≤ 18446744073709551615)) (IntKind.u64.wrap (ah + bh)) (18446744073709551615)))]) ∧ Gr w w' := by
  go_enter Tryz.func178, Tryz.ntmps178
  go_wp2_with fail
  have HA : Hid (At (((w.alloc (.cells #[.int .u64 al, .int .u64 ah] 26)).alloc (.cells #[.int .u64 bl, .int .u64 bh] 26)).alloc (.cells #[.int .u64 0, .int .u64 0] 26)) w.heap.size (.int .u64 al) (.int .u64 ah) 26) := ((At.newb _ rfl _ _ _).alloc _).alloc _
  have HB : Hid (At (((w.alloc (.cells #[.int .u64 al, .int .u64 ah] 26)).alloc (.cells #[.int .u64 bl, .int .u64 bh] 26)).alloc (.cells #[.int .u64 0, .int .u64 0] 26)) (w.heap.size + 1) (.int .u64 bl) (.int .u64 bh) 26) := (At.newb _ (by simp) _ _ _).alloc _
  have HX : Hid (At (((w.alloc (.cells #[.int .u64 al, .int .u64 ah] 26)).alloc (.cells #[.int .u64 bl, .int .u64 bh] 26)).alloc (.cells #[.int .u64 0, .int .u64 0] 26)) (w.heap.size + 1 + 1) (.int .u64 0) (.int .u64 0) 26) := At.newb _ (by simp) _ _ _
  have HF : Hid (Gr w (((w.alloc (.cells #[.int .u64 al, .int .u64 ah] 26)).alloc (.cells #[.int .u64 bl, .int .u64 bh] 26)).alloc (.cells #[.int .u64 0, .int .u64 0] 26))) := (⟨by go_grown, by go_grown⟩ : Gr w _)
  revert HA HB HX HF
  generalize (((w.alloc (.cells #[.int .u64 al, .int .u64 ah] 26)).alloc (.cells #[.int .u64 bl, .int .u64 bh] 26)).alloc (.cells #[.int .u64 0, .int .u64 0] 26)) = W
  intro HA HB HX HF
  have a0 := HA.out.c0
  have a1 := HA.out.c1
  have b0 := HB.out.c0
  have b1 := HB.out.c1
  go_region_held3 (fun w' => w'.cell? ⟨w.heap.size, 0, none⟩ = some (.int .u64 al) ∧ w'.cell? ⟨w.heap.size, 1, none⟩ = some (.int .u64 ah) ∧ w'.cell? ⟨w.heap.size + 1, 0, none⟩ = some (.int .u64 bl) ∧ w'.cell? ⟨w.heap.size + 1, 1, none⟩ = some (.int .u64 bh)) ((refine ⟨?_, ?_, ?_, ?_⟩ <;> repeat (with_reducible (first | assumption | apply cell_al | apply cell_dr | (refine cell_gr (by assumption) ?_) | (refine cell_st (by simp <;> omega) ?_)))))
    (first
    | (go_at_call 108; refine (whole_u _).mono ?_; rintro e w' ⟨rfl, hw⟩; subst hw)
    | (go_at_call 205; refine (straight_add _ _ _ _ _ _ (by assumption) (by assumption) (by assumption) (by assumption) _).mono ?_; rintro e w1 ⟨rfl, hg⟩; have hx : At w1 (w.heap.size + 1 + 1) (.int .u64 0) (.int .u64 0) 26 := At.gr (by repeat (with_reducible (first | exact HX.out | apply At.drew | apply At.alloc))) hg; have hG : Hid (Gr w w1) := Gr.trans (by repeat (with_reducible (first | exact HF.out | apply Gr.drew | apply Gr.alloc))) hg; have f0 := hx.f0 0; have f1 := hx.f0 1; have c0 := hx.c0; have c1 := hx.c1; have e0 := (hx.set (.int .u64 (eN (decide (ah < al) || decide (bh < bl)) 1 (eE (decide (al + bl ≤ 18446744073709551615)) (decide (ah + bh ≤ 18446744073709551615)) (IntKind.u64.wrap (al + bl)) (0)))) (.int .u64 (eN (decide (ah < al) || decide (bh < bl)) 0 (eE (decide (al + bl ≤ 18446744073709551615)) (decide (ah + bh ≤ 18446744073709551615)) (IntKind.u64.wrap (ah + bh)) (18446744073709551615))))).c0; have e1 := (hx.set (.int .u64 (eN (decide (ah < al) || decide (bh < bl)) 1 (eE (decide (al + bl ≤ 18446744073709551615)) (decide (ah + bh ≤ 18446744073709551615)) (IntKind.u64.wrap (al + bl)) (0)))) (.int .u64 (eN (decide (ah < al) || decide (bh < bl)) 0 (eE (decide (al + bl ≤ 18446744073709551615)) (decide (ah + bh ≤ 18446744073709551615)) (IntKind.u64.wrap (ah + bh)) (18446744073709551615))))).c1; clear hx))
  all_goals go_wp2_with fail
  all_goals refine bodyPost_ret (by simp [results, Tryz.results178, go_sem, e0, e1]; try rfl) rfl ?_
  all_goals exact ⟨rfl, (hG.out.set (by omega) _).set (by omega) _⟩
set_option maxHeartbeats 2000000 in
theorem sub_any (al ah bl bh : Int) (h1 : InU al) (h2 : InU ah) (h3 : InU bl) (h4 : InU bh) (w : World) : Calls Tryz.prog 183 #[.agg #[.int .u64 al, .int .u64 ah], .agg #[.int .u64 bl, .int .u64 bh]] w fun e w' => e = .returned (.agg #[.int .u64 (eN (decide (ah < al) || decide (bh < bl)) 1 (eE (decide (bh ≤ al)) (decide (bl ≤ ah)) (IntKind.u64.wrap (al - bh)) (0))), .int .u64 (eN (decide (ah < al) || decide (bh < bl)) 0 (eE (decide (bh ≤ al)) (decide (bl ≤ ah)) (IntKind.u64.wrap (ah - bl)) (18446744073709551615)))]) ∧ Gr w w' := by
  go_enter Tryz.func183, Tryz.ntmps183
  go_wp2_with fail
  have HA : Hid (At (((w.alloc (.cells #[.int .u64 al, .int .u64 ah] 26)).alloc (.cells #[.int .u64 bl, .int .u64 bh] 26)).alloc (.cells #[.int .u64 0, .int .u64 0] 26)) w.heap.size (.int .u64 al) (.int .u64 ah) 26) := ((At.newb _ rfl _ _ _).alloc _).alloc _
  have HB : Hid (At (((w.alloc (.cells #[.int .u64 al, .int .u64 ah] 26)).alloc (.cells #[.int .u64 bl, .int .u64 bh] 26)).alloc (.cells #[.int .u64 0, .int .u64 0] 26)) (w.heap.size + 1) (.int .u64 bl) (.int .u64 bh) 26) := (At.newb _ (by simp) _ _ _).alloc _
  have HX : Hid (At (((w.alloc (.cells #[.int .u64 al, .int .u64 ah] 26)).alloc (.cells #[.int .u64 bl, .int .u64 bh] 26)).alloc (.cells #[.int .u64 0, .int .u64 0] 26)) (w.heap.size + 1 + 1) (.int .u64 0) (.int .u64 0) 26) := At.newb _ (by simp) _ _ _
  have HF : Hid (Gr w (((w.alloc (.cells #[.int .u64 al, .int .u64 ah] 26)).alloc (.cells #[.int .u64 bl, .int .u64 bh] 26)).alloc (.cells #[.int .u64 0, .int .u64 0] 26))) := (⟨by go_grown, by go_grown⟩ : Gr w _)
  revert HA HB HX HF
  generalize (((w.alloc (.cells #[.int .u64 al, .int .u64 ah] 26)).alloc (.cells #[.int .u64 bl, .int .u64 bh] 26)).alloc (.cells #[.int .u64 0, .int .u64 0] 26)) = W
  intro HA HB HX HF
  have a0 := HA.out.c0
  have a1 := HA.out.c1
  have b0 := HB.out.c0
  have b1 := HB.out.c1
  go_region_held3 (fun w' => w'.cell? ⟨w.heap.size, 0, none⟩ = some (.int .u64 al) ∧ w'.cell? ⟨w.heap.size, 1, none⟩ = some (.int .u64 ah) ∧ w'.cell? ⟨w.heap.size + 1, 0, none⟩ = some (.int .u64 bl) ∧ w'.cell? ⟨w.heap.size + 1, 1, none⟩ = some (.int .u64 bh)) ((refine ⟨?_, ?_, ?_, ?_⟩ <;> repeat (with_reducible (first | assumption | apply cell_al | apply cell_dr | (refine cell_gr (by assumption) ?_) | (refine cell_st (by simp <;> omega) ?_)))))
    (first
    | (go_at_call 108; refine (whole_u _).mono ?_; rintro e w' ⟨rfl, hw⟩; subst hw)
    | (go_at_call 189; refine (crossed_sub _ _ _ _ _ _ (by assumption) (by assumption) (by assumption) (by assumption) _).mono ?_; rintro e w1 ⟨rfl, hg⟩; have hx : At w1 (w.heap.size + 1 + 1) (.int .u64 0) (.int .u64 0) 26 := At.gr (by repeat (with_reducible (first | exact HX.out | apply At.drew | apply At.alloc))) hg; have hG : Hid (Gr w w1) := Gr.trans (by repeat (with_reducible (first | exact HF.out | apply Gr.drew | apply Gr.alloc))) hg; have f0 := hx.f0 0; have f1 := hx.f0 1; have c0 := hx.c0; have c1 := hx.c1; have e0 := (hx.set (.int .u64 (eN (decide (ah < al) || decide (bh < bl)) 1 (eE (decide (bh ≤ al)) (decide (bl ≤ ah)) (IntKind.u64.wrap (al - bh)) (0)))) (.int .u64 (eN (decide (ah < al) || decide (bh < bl)) 0 (eE (decide (bh ≤ al)) (decide (bl ≤ ah)) (IntKind.u64.wrap (ah - bl)) (18446744073709551615))))).c0; have e1 := (hx.set (.int .u64 (eN (decide (ah < al) || decide (bh < bl)) 1 (eE (decide (bh ≤ al)) (decide (bl ≤ ah)) (IntKind.u64.wrap (al - bh)) (0)))) (.int .u64 (eN (decide (ah < al) || decide (bh < bl)) 0 (eE (decide (bh ≤ al)) (decide (bl ≤ ah)) (IntKind.u64.wrap (ah - bl)) (18446744073709551615))))).c1; clear hx))
  all_goals go_wp2_with fail
  all_goals refine bodyPost_ret (by simp [results, Tryz.results183, go_sem, e0, e1]; try rfl) rfl ?_
  all_goals exact ⟨rfl, (hG.out.set (by omega) _).set (by omega) _⟩
set_option maxHeartbeats 2000000 in
theorem mul_any (al ah bl bh : Int) (h1 : InU al) (h2 : InU ah) (h3 : InU bl) (h4 : InU bh) (w : World) : Calls Tryz.prog 186 #[.agg #[.int .u64 al, .int .u64 ah], .agg #[.int .u64 bl, .int .u64 bh]] w fun e w' => e = .returned (.agg #[.int .u64 (eN (decide (ah < al) || decide (bh < bl)) 1 (eE (decide (al * bl ≤ 18446744073709551615)) (decide (ah * bh ≤ 18446744073709551615)) (IntKind.u64.wrap (al * bl)) (0))), .int .u64 (eN (decide (ah < al) || decide (bh < bl)) 0 (eE (decide (al * bl ≤ 18446744073709551615)) (decide (ah * bh ≤ 18446744073709551615)) (IntKind.u64.wrap (ah * bh)) (18446744073709551615)))]) ∧ Gr w w' := by
  go_enter Tryz.func186, Tryz.ntmps186
  go_wp2_with fail
  have HA : Hid (At (((w.alloc (.cells #[.int .u64 al, .int .u64 ah] 26)).alloc (.cells #[.int .u64 bl, .int .u64 bh] 26)).alloc (.cells #[.int .u64 0, .int .u64 0] 26)) w.heap.size (.int .u64 al) (.int .u64 ah) 26) := ((At.newb _ rfl _ _ _).alloc _).alloc _
  have HB : Hid (At (((w.alloc (.cells #[.int .u64 al, .int .u64 ah] 26)).alloc (.cells #[.int .u64 bl, .int .u64 bh] 26)).alloc (.cells #[.int .u64 0, .int .u64 0] 26)) (w.heap.size + 1) (.int .u64 bl) (.int .u64 bh) 26) := (At.newb _ (by simp) _ _ _).alloc _
  have HX : Hid (At (((w.alloc (.cells #[.int .u64 al, .int .u64 ah] 26)).alloc (.cells #[.int .u64 bl, .int .u64 bh] 26)).alloc (.cells #[.int .u64 0, .int .u64 0] 26)) (w.heap.size + 1 + 1) (.int .u64 0) (.int .u64 0) 26) := At.newb _ (by simp) _ _ _
  have HF : Hid (Gr w (((w.alloc (.cells #[.int .u64 al, .int .u64 ah] 26)).alloc (.cells #[.int .u64 bl, .int .u64 bh] 26)).alloc (.cells #[.int .u64 0, .int .u64 0] 26))) := (⟨by go_grown, by go_grown⟩ : Gr w _)
  revert HA HB HX HF
  generalize (((w.alloc (.cells #[.int .u64 al, .int .u64 ah] 26)).alloc (.cells #[.int .u64 bl, .int .u64 bh] 26)).alloc (.cells #[.int .u64 0, .int .u64 0] 26)) = W
  intro HA HB HX HF
  have a0 := HA.out.c0
  have a1 := HA.out.c1
  have b0 := HB.out.c0
  have b1 := HB.out.c1
  go_region_held3 (fun w' => w'.cell? ⟨w.heap.size, 0, none⟩ = some (.int .u64 al) ∧ w'.cell? ⟨w.heap.size, 1, none⟩ = some (.int .u64 ah) ∧ w'.cell? ⟨w.heap.size + 1, 0, none⟩ = some (.int .u64 bl) ∧ w'.cell? ⟨w.heap.size + 1, 1, none⟩ = some (.int .u64 bh)) ((refine ⟨?_, ?_, ?_, ?_⟩ <;> repeat (with_reducible (first | assumption | apply cell_al | apply cell_dr | (refine cell_gr (by assumption) ?_) | (refine cell_st (by simp <;> omega) ?_)))))
    (first
    | (go_at_call 108; refine (whole_u _).mono ?_; rintro e w' ⟨rfl, hw⟩; subst hw)
    | (go_at_call 205; refine (straight_mul _ _ _ _ _ _ (by assumption) (by assumption) (by assumption) (by assumption) _).mono ?_; rintro e w1 ⟨rfl, hg⟩; have hx : At w1 (w.heap.size + 1 + 1) (.int .u64 0) (.int .u64 0) 26 := At.gr (by repeat (with_reducible (first | exact HX.out | apply At.drew | apply At.alloc))) hg; have hG : Hid (Gr w w1) := Gr.trans (by repeat (with_reducible (first | exact HF.out | apply Gr.drew | apply Gr.alloc))) hg; have f0 := hx.f0 0; have f1 := hx.f0 1; have c0 := hx.c0; have c1 := hx.c1; have e0 := (hx.set (.int .u64 (eN (decide (ah < al) || decide (bh < bl)) 1 (eE (decide (al * bl ≤ 18446744073709551615)) (decide (ah * bh ≤ 18446744073709551615)) (IntKind.u64.wrap (al * bl)) (0)))) (.int .u64 (eN (decide (ah < al) || decide (bh < bl)) 0 (eE (decide (al * bl ≤ 18446744073709551615)) (decide (ah * bh ≤ 18446744073709551615)) (IntKind.u64.wrap (ah * bh)) (18446744073709551615))))).c0; have e1 := (hx.set (.int .u64 (eN (decide (ah < al) || decide (bh < bl)) 1 (eE (decide (al * bl ≤ 18446744073709551615)) (decide (ah * bh ≤ 18446744073709551615)) (IntKind.u64.wrap (al * bl)) (0)))) (.int .u64 (eN (decide (ah < al) || decide (bh < bl)) 0 (eE (decide (al * bl ≤ 18446744073709551615)) (decide (ah * bh ≤ 18446744073709551615)) (IntKind.u64.wrap (ah * bh)) (18446744073709551615))))).c1; clear hx))
  all_goals go_wp2_with fail
  all_goals refine bodyPost_ret (by simp [results, Tryz.results186, go_sem, e0, e1]; try rfl) rfl ?_
  all_goals exact ⟨rfl, (hG.out.set (by omega) _).set (by omega) _⟩
theorem straight1_shl (al ah wl wh : Int) (h1 : InU al) (h2 : InU ah) (n : Nat) (c : Addr) (w : World) (hn : w.cell? c = some (.int .u64 (n : Int))) : Calls Tryz.prog 205 #[.agg #[.int .u64 al, .int .u64 ah], .agg #[.int .u64 al, .int .u64 ah], .agg #[.int .u64 wl, .int .u64 wh], .func (.func 216) #[] #[.pointer (some c)]] w fun e w' => e = .returned (.agg #[.int .u64 (eN (decide (ah < al)) 1 (eE ((decide (n ≤ 63) && decide (al * 2 ^ n ≤ 18446744073709551615))) ((decide (n ≤ 63) && decide (ah * 2 ^ n ≤ 18446744073709551615))) (IntKind.u64.wrap (al * 2 ^ min n 64)) (wl))), .int .u64 (eN (decide (ah < al)) 0 (eE ((decide (n ≤ 63) && decide (al * 2 ^ n ≤ 18446744073709551615))) ((decide (n ≤ 63) && decide (ah * 2 ^ n ≤ 18446744073709551615))) (IntKind.u64.wrap (ah * 2 ^ min n 64)) (wh)))]) ∧ Gr w w' := by
  have h := straight_shl al ah al ah wl wh h1 h2 h1 h2 n c w hn
  rw [Bool.or_self] at h
  exact h
set_option maxHeartbeats 2000000 in
theorem shl_any (al ah : Int) (h1 : InU al) (h2 : InU ah) (n : Nat) (w : World) : Calls Tryz.prog 197 #[.agg #[.int .u64 al, .int .u64 ah], .int .u64 (n : Int)] w fun e w' => e = .returned (.agg #[.int .u64 (eN (decide (ah < al)) 1 (eE ((decide (n ≤ 63) && decide (al * 2 ^ n ≤ 18446744073709551615))) ((decide (n ≤ 63) && decide (ah * 2 ^ n ≤ 18446744073709551615))) (IntKind.u64.wrap (al * 2 ^ min n 64)) (0))), .int .u64 (eN (decide (ah < al)) 0 (eE ((decide (n ≤ 63) && decide (al * 2 ^ n ≤ 18446744073709551615))) ((decide (n ≤ 63) && decide (ah * 2 ^ n ≤ 18446744073709551615))) (IntKind.u64.wrap (ah * 2 ^ min n 64)) (18446744073709551615)))]) ∧ Gr w w' := by
  go_enter Tryz.func197, Tryz.ntmps197
  go_wp2_with fail
  have HA : Hid (At (((w.alloc (.cells #[.int .u64 al, .int .u64 ah] 26)).alloc (.cells #[.int .u64 (n : Int)] 51)).alloc (.cells #[.int .u64 0, .int .u64 0] 26)) w.heap.size (.int .u64 al) (.int .u64 ah) 26) := ((At.newb _ rfl _ _ _).alloc _).alloc _
  have HN : Hid ((((w.alloc (.cells #[.int .u64 al, .int .u64 ah] 26)).alloc (.cells #[.int .u64 (n : Int)] 51)).alloc (.cells #[.int .u64 0, .int .u64 0] 26)).cell? ⟨w.heap.size + 1, 0, none⟩ = some (.int .u64 (n : Int))) := cell_al (cell_new _ _ _ (by simp))
  have HX : Hid (At (((w.alloc (.cells #[.int .u64 al, .int .u64 ah] 26)).alloc (.cells #[.int .u64 (n : Int)] 51)).alloc (.cells #[.int .u64 0, .int .u64 0] 26)) (w.heap.size + 1 + 1) (.int .u64 0) (.int .u64 0) 26) := At.newb _ (by simp) _ _ _
  have HF : Hid (Gr w (((w.alloc (.cells #[.int .u64 al, .int .u64 ah] 26)).alloc (.cells #[.int .u64 (n : Int)] 51)).alloc (.cells #[.int .u64 0, .int .u64 0] 26))) := (⟨by go_grown, by go_grown⟩ : Gr w _)
  revert HA HN HX HF
  generalize (((w.alloc (.cells #[.int .u64 al, .int .u64 ah] 26)).alloc (.cells #[.int .u64 (n : Int)] 51)).alloc (.cells #[.int .u64 0, .int .u64 0] 26)) = W
  intro HA HN HX HF
  have a0 := HA.out.c0
  have a1 := HA.out.c1
  have b0 := HN.out
  go_region_held3 (fun w' => w'.cell? ⟨w.heap.size, 0, none⟩ = some (.int .u64 al) ∧ w'.cell? ⟨w.heap.size, 1, none⟩ = some (.int .u64 ah) ∧ w'.cell? ⟨w.heap.size + 1, 0, none⟩ = some (.int .u64 (n : Int))) ((refine ⟨?_, ?_, ?_⟩ <;> repeat (with_reducible (first | assumption | apply cell_al | apply cell_dr | (refine cell_gr (by assumption) ?_) | (refine cell_st (by simp <;> omega) ?_)))))
    (first
    | (go_at_call 108; refine (whole_u _).mono ?_; rintro e w' ⟨rfl, hw⟩; subst hw)
    | (go_at_call 205; refine (straight1_shl _ _ _ _ (by assumption) (by assumption) n _ _ (by repeat (with_reducible (first | assumption | apply cell_al | apply cell_dr)))).mono ?_; rintro e w1 ⟨rfl, hg⟩; have hx : At w1 (w.heap.size + 1 + 1) (.int .u64 0) (.int .u64 0) 26 := At.gr (by repeat (with_reducible (first | exact HX.out | apply At.drew | apply At.alloc))) hg; have hG : Hid (Gr w w1) := Gr.trans (by repeat (with_reducible (first | exact HF.out | apply Gr.drew | apply Gr.alloc))) hg; have f0 := hx.f0 0; have f1 := hx.f0 1; have c0 := hx.c0; have c1 := hx.c1; have e0 := (hx.set (.int .u64 (eN (decide (ah < al)) 1 (eE ((decide (n ≤ 63) && decide (al * 2 ^ n ≤ 18446744073709551615))) ((decide (n ≤ 63) && decide (ah * 2 ^ n ≤ 18446744073709551615))) (IntKind.u64.wrap (al * 2 ^ min n 64)) (0)))) (.int .u64 (eN (decide (ah < al)) 0 (eE ((decide (n ≤ 63) && decide (al * 2 ^ n ≤ 18446744073709551615))) ((decide (n ≤ 63) && decide (ah * 2 ^ n ≤ 18446744073709551615))) (IntKind.u64.wrap (ah * 2 ^ min n 64)) (18446744073709551615))))).c0; have e1 := (hx.set (.int .u64 (eN (decide (ah < al)) 1 (eE ((decide (n ≤ 63) && decide (al * 2 ^ n ≤ 18446744073709551615))) ((decide (n ≤ 63) && decide (ah * 2 ^ n ≤ 18446744073709551615))) (IntKind.u64.wrap (al * 2 ^ min n 64)) (0)))) (.int .u64 (eN (decide (ah < al)) 0 (eE ((decide (n ≤ 63) && decide (al * 2 ^ n ≤ 18446744073709551615))) ((decide (n ≤ 63) && decide (ah * 2 ^ n ≤ 18446744073709551615))) (IntKind.u64.wrap (ah * 2 ^ min n 64)) (18446744073709551615))))).c1; clear hx))
  all_goals go_wp2_with fail
  all_goals refine bodyPost_ret (by simp [results, Tryz.results197, go_sem, e0, e1]; try rfl) rfl ?_
  all_goals exact ⟨rfl, (hG.out.set (by omega) _).set (by omega) _⟩
theorem straight1_shr (al ah wl wh : Int) (h1 : InU al) (h2 : InU ah) (n : Nat) (c : Addr) (w : World) (hn : w.cell? c = some (.int .u64 (n : Int))) : Calls Tryz.prog 205 #[.agg #[.int .u64 al, .int .u64 ah], .agg #[.int .u64 al, .int .u64 ah], .agg #[.int .u64 wl, .int .u64 wh], .func (.func 217) #[] #[.pointer (some c)]] w fun e w' => e = .returned (.agg #[.int .u64 (eN (decide (ah < al)) 1 (eE (true) (true) (al / 2 ^ min n 64) (wl))), .int .u64 (eN (decide (ah < al)) 0 (eE (true) (true) (ah / 2 ^ min n 64) (wh)))]) ∧ Gr w w' := by
  have h := straight_shr al ah al ah wl wh h1 h2 h1 h2 n c w hn
  rw [Bool.or_self] at h
  exact h
set_option maxHeartbeats 2000000 in
theorem shr_any (al ah : Int) (h1 : InU al) (h2 : InU ah) (n : Nat) (w : World) : Calls Tryz.prog 199 #[.agg #[.int .u64 al, .int .u64 ah], .int .u64 (n : Int)] w fun e w' => e = .returned (.agg #[.int .u64 (eN (decide (ah < al)) 1 (eE (true) (true) (al / 2 ^ min n 64) (0))), .int .u64 (eN (decide (ah < al)) 0 (eE (true) (true) (ah / 2 ^ min n 64) (18446744073709551615)))]) ∧ Gr w w' := by
  go_enter Tryz.func199, Tryz.ntmps199
  go_wp2_with fail
  have HA : Hid (At (((w.alloc (.cells #[.int .u64 al, .int .u64 ah] 26)).alloc (.cells #[.int .u64 (n : Int)] 51)).alloc (.cells #[.int .u64 0, .int .u64 0] 26)) w.heap.size (.int .u64 al) (.int .u64 ah) 26) := ((At.newb _ rfl _ _ _).alloc _).alloc _
  have HN : Hid ((((w.alloc (.cells #[.int .u64 al, .int .u64 ah] 26)).alloc (.cells #[.int .u64 (n : Int)] 51)).alloc (.cells #[.int .u64 0, .int .u64 0] 26)).cell? ⟨w.heap.size + 1, 0, none⟩ = some (.int .u64 (n : Int))) := cell_al (cell_new _ _ _ (by simp))
  have HX : Hid (At (((w.alloc (.cells #[.int .u64 al, .int .u64 ah] 26)).alloc (.cells #[.int .u64 (n : Int)] 51)).alloc (.cells #[.int .u64 0, .int .u64 0] 26)) (w.heap.size + 1 + 1) (.int .u64 0) (.int .u64 0) 26) := At.newb _ (by simp) _ _ _
  have HF : Hid (Gr w (((w.alloc (.cells #[.int .u64 al, .int .u64 ah] 26)).alloc (.cells #[.int .u64 (n : Int)] 51)).alloc (.cells #[.int .u64 0, .int .u64 0] 26))) := (⟨by go_grown, by go_grown⟩ : Gr w _)
  revert HA HN HX HF
  generalize (((w.alloc (.cells #[.int .u64 al, .int .u64 ah] 26)).alloc (.cells #[.int .u64 (n : Int)] 51)).alloc (.cells #[.int .u64 0, .int .u64 0] 26)) = W
  intro HA HN HX HF
  have a0 := HA.out.c0
  have a1 := HA.out.c1
  have b0 := HN.out
  go_region_held3 (fun w' => w'.cell? ⟨w.heap.size, 0, none⟩ = some (.int .u64 al) ∧ w'.cell? ⟨w.heap.size, 1, none⟩ = some (.int .u64 ah) ∧ w'.cell? ⟨w.heap.size + 1, 0, none⟩ = some (.int .u64 (n : Int))) ((refine ⟨?_, ?_, ?_⟩ <;> repeat (with_reducible (first | assumption | apply cell_al | apply cell_dr | (refine cell_gr (by assumption) ?_) | (refine cell_st (by simp <;> omega) ?_)))))
    (first
    | (go_at_call 108; refine (whole_u _).mono ?_; rintro e w' ⟨rfl, hw⟩; subst hw)
    | (go_at_call 205; refine (straight1_shr _ _ _ _ (by assumption) (by assumption) n _ _ (by repeat (with_reducible (first | assumption | apply cell_al | apply cell_dr)))).mono ?_; rintro e w1 ⟨rfl, hg⟩; have hx : At w1 (w.heap.size + 1 + 1) (.int .u64 0) (.int .u64 0) 26 := At.gr (by repeat (with_reducible (first | exact HX.out | apply At.drew | apply At.alloc))) hg; have hG : Hid (Gr w w1) := Gr.trans (by repeat (with_reducible (first | exact HF.out | apply Gr.drew | apply Gr.alloc))) hg; have f0 := hx.f0 0; have f1 := hx.f0 1; have c0 := hx.c0; have c1 := hx.c1; have e0 := (hx.set (.int .u64 (eN (decide (ah < al)) 1 (eE (true) (true) (al / 2 ^ min n 64) (0)))) (.int .u64 (eN (decide (ah < al)) 0 (eE (true) (true) (ah / 2 ^ min n 64) (18446744073709551615))))).c0; have e1 := (hx.set (.int .u64 (eN (decide (ah < al)) 1 (eE (true) (true) (al / 2 ^ min n 64) (0)))) (.int .u64 (eN (decide (ah < al)) 0 (eE (true) (true) (ah / 2 ^ min n 64) (18446744073709551615))))).c1; clear hx))
  all_goals go_wp2_with fail
  all_goals refine bodyPost_ret (by simp [results, Tryz.results199, go_sem, e0, e1]; try rfl) rfl ?_
  all_goals exact ⟨rfl, (hG.out.set (by omega) _).set (by omega) _⟩
set_option maxHeartbeats 2000000 in
theorem plus_any (al ah bl bh : Int) (h1 : InS al) (h2 : InS ah) (h3 : InS bl) (h4 : InS bh) (w : World) : Calls Tryz.prog 179 #[.agg #[.int .i64 al, .int .i64 ah], .agg #[.int .i64 bl, .int .i64 bh]] w fun e w' => e = .returned (.agg #[.int .i64 (eN (decide (ah < al) || decide (bh < bl)) 1 (eE (decide (-9223372036854775808 ≤ al + bl) && decide (al + bl ≤ 9223372036854775807)) (decide (-9223372036854775808 ≤ ah + bh) && decide (ah + bh ≤ 9223372036854775807)) (wrap64 (al + bl)) (-9223372036854775808))), .int .i64 (eN (decide (ah < al) || decide (bh < bl)) 0 (eE (decide (-9223372036854775808 ≤ al + bl) && decide (al + bl ≤ 9223372036854775807)) (decide (-9223372036854775808 ≤ ah + bh) && decide (ah + bh ≤ 9223372036854775807)) (wrap64 (ah + bh)) (9223372036854775807)))]) ∧ Gr w w' := by
  go_enter Tryz.func179, Tryz.ntmps179
  go_wp2_with fail
  have HA : Hid (At (((w.alloc (.cells #[.int .i64 al, .int .i64 ah] 28)).alloc (.cells #[.int .i64 bl, .int .i64 bh] 28)).alloc (.cells #[.int .i64 0, .int .i64 0] 28)) w.heap.size (.int .i64 al) (.int .i64 ah) 28) := ((At.newb _ rfl _ _ _).alloc _).alloc _
  have HB : Hid (At (((w.alloc (.cells #[.int .i64 al, .int .i64 ah] 28)).alloc (.cells #[.int .i64 bl, .int .i64 bh] 28)).alloc (.cells #[.int .i64 0, .int .i64 0] 28)) (w.heap.size + 1) (.int .i64 bl) (.int .i64 bh) 28) := (At.newb _ (by simp) _ _ _).alloc _
  have HX : Hid (At (((w.alloc (.cells #[.int .i64 al, .int .i64 ah] 28)).alloc (.cells #[.int .i64 bl, .int .i64 bh] 28)).alloc (.cells #[.int .i64 0, .int .i64 0] 28)) (w.heap.size + 1 + 1) (.int .i64 0) (.int .i64 0) 28) := At.newb _ (by simp) _ _ _
  have HF : Hid (Gr w (((w.alloc (.cells #[.int .i64 al, .int .i64 ah] 28)).alloc (.cells #[.int .i64 bl, .int .i64 bh] 28)).alloc (.cells #[.int .i64 0, .int .i64 0] 28))) := (⟨by go_grown, by go_grown⟩ : Gr w _)
  revert HA HB HX HF
  generalize (((w.alloc (.cells #[.int .i64 al, .int .i64 ah] 28)).alloc (.cells #[.int .i64 bl, .int .i64 bh] 28)).alloc (.cells #[.int .i64 0, .int .i64 0] 28)) = W
  intro HA HB HX HF
  have a0 := HA.out.c0
  have a1 := HA.out.c1
  have b0 := HB.out.c0
  have b1 := HB.out.c1
  go_region_held3 (fun w' => w'.cell? ⟨w.heap.size, 0, none⟩ = some (.int .i64 al) ∧ w'.cell? ⟨w.heap.size, 1, none⟩ = some (.int .i64 ah) ∧ w'.cell? ⟨w.heap.size + 1, 0, none⟩ = some (.int .i64 bl) ∧ w'.cell? ⟨w.heap.size + 1, 1, none⟩ = some (.int .i64 bh)) ((refine ⟨?_, ?_, ?_, ?_⟩ <;> repeat (with_reducible (first | assumption | apply cell_al | apply cell_dr | (refine cell_gr (by assumption) ?_) | (refine cell_st (by simp <;> omega) ?_)))))
    (first
    | (go_at_call 109; refine (whole_s _).mono ?_; rintro e w' ⟨rfl, hw⟩; subst hw)
    | (go_at_call 208; refine (straight_plus _ _ _ _ _ _ (by assumption) (by assumption) (by assumption) (by assumption) _).mono ?_; rintro e w1 ⟨rfl, hg⟩; have hx : At w1 (w.heap.size + 1 + 1) (.int .i64 0) (.int .i64 0) 28 := At.gr (by repeat (with_reducible (first | exact HX.out | apply At.drew | apply At.alloc))) hg; have hG : Hid (Gr w w1) := Gr.trans (by repeat (with_reducible (first | exact HF.out | apply Gr.drew | apply Gr.alloc))) hg; have f0 := hx.f0 0; have f1 := hx.f0 1; have c0 := hx.c0; have c1 := hx.c1; have e0 := (hx.set (.int .i64 (eN (decide (ah < al) || decide (bh < bl)) 1 (eE (decide (-9223372036854775808 ≤ al + bl) && decide (al + bl ≤ 9223372036854775807)) (decide (-9223372036854775808 ≤ ah + bh) && decide (ah + bh ≤ 9223372036854775807)) (wrap64 (al + bl)) (-9223372036854775808)))) (.int .i64 (eN (decide (ah < al) || decide (bh < bl)) 0 (eE (decide (-9223372036854775808 ≤ al + bl) && decide (al + bl ≤ 9223372036854775807)) (decide (-9223372036854775808 ≤ ah + bh) && decide (ah + bh ≤ 9223372036854775807)) (wrap64 (ah + bh)) (9223372036854775807))))).c0; have e1 := (hx.set (.int .i64 (eN (decide (ah < al) || decide (bh < bl)) 1 (eE (decide (-9223372036854775808 ≤ al + bl) && decide (al + bl ≤ 9223372036854775807)) (decide (-9223372036854775808 ≤ ah + bh) && decide (ah + bh ≤ 9223372036854775807)) (wrap64 (al + bl)) (-9223372036854775808)))) (.int .i64 (eN (decide (ah < al) || decide (bh < bl)) 0 (eE (decide (-9223372036854775808 ≤ al + bl) && decide (al + bl ≤ 9223372036854775807)) (decide (-9223372036854775808 ≤ ah + bh) && decide (ah + bh ≤ 9223372036854775807)) (wrap64 (ah + bh)) (9223372036854775807))))).c1; clear hx))
  all_goals go_wp2_with fail
  all_goals refine bodyPost_ret (by simp [results, Tryz.results179, go_sem, e0, e1]; try rfl) rfl ?_
  all_goals exact ⟨rfl, (hG.out.set (by omega) _).set (by omega) _⟩
set_option maxHeartbeats 2000000 in
theorem minus_any (al ah bl bh : Int) (h1 : InS al) (h2 : InS ah) (h3 : InS bl) (h4 : InS bh) (w : World) : Calls Tryz.prog 184 #[.agg #[.int .i64 al, .int .i64 ah], .agg #[.int .i64 bl, .int .i64 bh]] w fun e w' => e = .returned (.agg #[.int .i64 (eN (decide (ah < al) || decide (bh < bl)) 1 (eE (decide (-9223372036854775808 ≤ al - bh) && decide (al - bh ≤ 9223372036854775807)) (decide (-9223372036854775808 ≤ ah - bl) && decide (ah - bl ≤ 9223372036854775807)) (wrap64 (al - bh)) (-9223372036854775808))), .int .i64 (eN (decide (ah < al) || decide (bh < bl)) 0 (eE (decide (-9223372036854775808 ≤ al - bh) && decide (al - bh ≤ 9223372036854775807)) (decide (-9223372036854775808 ≤ ah - bl) && decide (ah - bl ≤ 9223372036854775807)) (wrap64 (ah - bl)) (9223372036854775807)))]) ∧ Gr w w' := by
  go_enter Tryz.func184, Tryz.ntmps184
  go_wp2_with fail
  have HA : Hid (At (((w.alloc (.cells #[.int .i64 al, .int .i64 ah] 28)).alloc (.cells #[.int .i64 bl, .int .i64 bh] 28)).alloc (.cells #[.int .i64 0, .int .i64 0] 28)) w.heap.size (.int .i64 al) (.int .i64 ah) 28) := ((At.newb _ rfl _ _ _).alloc _).alloc _
  have HB : Hid (At (((w.alloc (.cells #[.int .i64 al, .int .i64 ah] 28)).alloc (.cells #[.int .i64 bl, .int .i64 bh] 28)).alloc (.cells #[.int .i64 0, .int .i64 0] 28)) (w.heap.size + 1) (.int .i64 bl) (.int .i64 bh) 28) := (At.newb _ (by simp) _ _ _).alloc _
  have HX : Hid (At (((w.alloc (.cells #[.int .i64 al, .int .i64 ah] 28)).alloc (.cells #[.int .i64 bl, .int .i64 bh] 28)).alloc (.cells #[.int .i64 0, .int .i64 0] 28)) (w.heap.size + 1 + 1) (.int .i64 0) (.int .i64 0) 28) := At.newb _ (by simp) _ _ _
  have HF : Hid (Gr w (((w.alloc (.cells #[.int .i64 al, .int .i64 ah] 28)).alloc (.cells #[.int .i64 bl, .int .i64 bh] 28)).alloc (.cells #[.int .i64 0, .int .i64 0] 28))) := (⟨by go_grown, by go_grown⟩ : Gr w _)
  revert HA HB HX HF
  generalize (((w.alloc (.cells #[.int .i64 al, .int .i64 ah] 28)).alloc (.cells #[.int .i64 bl, .int .i64 bh] 28)).alloc (.cells #[.int .i64 0, .int .i64 0] 28)) = W
  intro HA HB HX HF
  have a0 := HA.out.c0
  have a1 := HA.out.c1
  have b0 := HB.out.c0
  have b1 := HB.out.c1
  go_region_held3 (fun w' => w'.cell? ⟨w.heap.size, 0, none⟩ = some (.int .i64 al) ∧ w'.cell? ⟨w.heap.size, 1, none⟩ = some (.int .i64 ah) ∧ w'.cell? ⟨w.heap.size + 1, 0, none⟩ = some (.int .i64 bl) ∧ w'.cell? ⟨w.heap.size + 1, 1, none⟩ = some (.int .i64 bh)) ((refine ⟨?_, ?_, ?_, ?_⟩ <;> repeat (with_reducible (first | assumption | apply cell_al | apply cell_dr | (refine cell_gr (by assumption) ?_) | (refine cell_st (by simp <;> omega) ?_)))))
    (first
    | (go_at_call 109; refine (whole_s _).mono ?_; rintro e w' ⟨rfl, hw⟩; subst hw)
    | (go_at_call 211; refine (crossed_minus _ _ _ _ _ _ (by assumption) (by assumption) (by assumption) (by assumption) _).mono ?_; rintro e w1 ⟨rfl, hg⟩; have hx : At w1 (w.heap.size + 1 + 1) (.int .i64 0) (.int .i64 0) 28 := At.gr (by repeat (with_reducible (first | exact HX.out | apply At.drew | apply At.alloc))) hg; have hG : Hid (Gr w w1) := Gr.trans (by repeat (with_reducible (first | exact HF.out | apply Gr.drew | apply Gr.alloc))) hg; have f0 := hx.f0 0; have f1 := hx.f0 1; have c0 := hx.c0; have c1 := hx.c1; have e0 := (hx.set (.int .i64 (eN (decide (ah < al) || decide (bh < bl)) 1 (eE (decide (-9223372036854775808 ≤ al - bh) && decide (al - bh ≤ 9223372036854775807)) (decide (-9223372036854775808 ≤ ah - bl) && decide (ah - bl ≤ 9223372036854775807)) (wrap64 (al - bh)) (-9223372036854775808)))) (.int .i64 (eN (decide (ah < al) || decide (bh < bl)) 0 (eE (decide (-9223372036854775808 ≤ al - bh) && decide (al - bh ≤ 9223372036854775807)) (decide (-9223372036854775808 ≤ ah - bl) && decide (ah - bl ≤ 9223372036854775807)) (wrap64 (ah - bl)) (9223372036854775807))))).c0; have e1 := (hx.set (.int .i64 (eN (decide (ah < al) || decide (bh < bl)) 1 (eE (decide (-9223372036854775808 ≤ al - bh) && decide (al - bh ≤ 9223372036854775807)) (decide (-9223372036854775808 ≤ ah - bl) && decide (ah - bl ≤ 9223372036854775807)) (wrap64 (al - bh)) (-9223372036854775808)))) (.int .i64 (eN (decide (ah < al) || decide (bh < bl)) 0 (eE (decide (-9223372036854775808 ≤ al - bh) && decide (al - bh ≤ 9223372036854775807)) (decide (-9223372036854775808 ≤ ah - bl) && decide (ah - bl ≤ 9223372036854775807)) (wrap64 (ah - bl)) (9223372036854775807))))).c1; clear hx))
  all_goals go_wp2_with fail
  all_goals refine bodyPost_ret (by simp [results, Tryz.results184, go_sem, e0, e1]; try rfl) rfl ?_
  all_goals exact ⟨rfl, (hG.out.set (by omega) _).set (by omega) _⟩
theorem straight1_sar (al ah wl wh : Int) (h1 : InS al) (h2 : InS ah) (n : Nat) (c : Addr) (w : World) (hn : w.cell? c = some (.int .u64 (n : Int))) : Calls Tryz.prog 208 #[.agg #[.int .i64 al, .int .i64 ah], .agg #[.int .i64 al, .int .i64 ah], .agg #[.int .i64 wl, .int .i64 wh], .func (.func 219) #[] #[.pointer (some c)]] w fun e w' => e = .returned (.agg #[.int .i64 (eN (decide (ah < al)) 1 (eE (true) (true) (al / 2 ^ min n 63) (wl))), .int .i64 (eN (decide (ah < al)) 0 (eE (true) (true) (ah / 2 ^ min n 63) (wh)))]) ∧ Gr w w' := by
  have h := straight_sar al ah al ah wl wh h1 h2 h1 h2 n c w hn
  rw [Bool.or_self] at h
  exact h
set_option maxHeartbeats 2000000 in
theorem sar_any (al ah : Int) (h1 : InS al) (h2 : InS ah) (n : Nat) (w : World) : Calls Tryz.prog 201 #[.agg #[.int .i64 al, .int .i64 ah], .int .u64 (n : Int)] w fun e w' => e = .returned (.agg #[.int .i64 (eN (decide (ah < al)) 1 (eE (true) (true) (al / 2 ^ min n 63) (-9223372036854775808))), .int .i64 (eN (decide (ah < al)) 0 (eE (true) (true) (ah / 2 ^ min n 63) (9223372036854775807)))]) ∧ Gr w w' := by
  go_enter Tryz.func201, Tryz.ntmps201
  go_wp2_with fail
  have HA : Hid (At (((w.alloc (.cells #[.int .i64 al, .int .i64 ah] 28)).alloc (.cells #[.int .u64 (n : Int)] 51)).alloc (.cells #[.int .i64 0, .int .i64 0] 28)) w.heap.size (.int .i64 al) (.int .i64 ah) 28) := ((At.newb _ rfl _ _ _).alloc _).alloc _
  have HN : Hid ((((w.alloc (.cells #[.int .i64 al, .int .i64 ah] 28)).alloc (.cells #[.int .u64 (n : Int)] 51)).alloc (.cells #[.int .i64 0, .int .i64 0] 28)).cell? ⟨w.heap.size + 1, 0, none⟩ = some (.int .u64 (n : Int))) := cell_al (cell_new _ _ _ (by simp))
  have HX : Hid (At (((w.alloc (.cells #[.int .i64 al, .int .i64 ah] 28)).alloc (.cells #[.int .u64 (n : Int)] 51)).alloc (.cells #[.int .i64 0, .int .i64 0] 28)) (w.heap.size + 1 + 1) (.int .i64 0) (.int .i64 0) 28) := At.newb _ (by simp) _ _ _
  have HF : Hid (Gr w (((w.alloc (.cells #[.int .i64 al, .int .i64 ah] 28)).alloc (.cells #[.int .u64 (n : Int)] 51)).alloc (.cells #[.int .i64 0, .int .i64 0] 28))) := (⟨by go_grown, by go_grown⟩ : Gr w _)
  revert HA HN HX HF
  generalize (((w.alloc (.cells #[.int .i64 al, .int .i64 ah] 28)).alloc (.cells #[.int .u64 (n : Int)] 51)).alloc (.cells #[.int .i64 0, .int .i64 0] 28)) = W
  intro HA HN HX HF
  have a0 := HA.out.c0
  have a1 := HA.out.c1
  have b0 := HN.out
  go_region_held3 (fun w' => w'.cell? ⟨w.heap.size, 0, none⟩ = some (.int .i64 al) ∧ w'.cell? ⟨w.heap.size, 1, none⟩ = some (.int .i64 ah) ∧ w'.cell? ⟨w.heap.size + 1, 0, none⟩ = some (.int .u64 (n : Int))) ((refine ⟨?_, ?_, ?_⟩ <;> repeat (with_reducible (first | assumption | apply cell_al | apply cell_dr | (refine cell_gr (by assumption) ?_) | (refine cell_st (by simp <;> omega) ?_)))))
    (first
    | (go_at_call 109; refine (whole_s _).mono ?_; rintro e w' ⟨rfl, hw⟩; subst hw)
    | (go_at_call 208; refine (straight1_sar _ _ _ _ (by assumption) (by assumption) n _ _ (by repeat (with_reducible (first | assumption | apply cell_al | apply cell_dr)))).mono ?_; rintro e w1 ⟨rfl, hg⟩; have hx : At w1 (w.heap.size + 1 + 1) (.int .i64 0) (.int .i64 0) 28 := At.gr (by repeat (with_reducible (first | exact HX.out | apply At.drew | apply At.alloc))) hg; have hG : Hid (Gr w w1) := Gr.trans (by repeat (with_reducible (first | exact HF.out | apply Gr.drew | apply Gr.alloc))) hg; have f0 := hx.f0 0; have f1 := hx.f0 1; have c0 := hx.c0; have c1 := hx.c1; have e0 := (hx.set (.int .i64 (eN (decide (ah < al)) 1 (eE (true) (true) (al / 2 ^ min n 63) (-9223372036854775808)))) (.int .i64 (eN (decide (ah < al)) 0 (eE (true) (true) (ah / 2 ^ min n 63) (9223372036854775807))))).c0; have e1 := (hx.set (.int .i64 (eN (decide (ah < al)) 1 (eE (true) (true) (al / 2 ^ min n 63) (-9223372036854775808)))) (.int .i64 (eN (decide (ah < al)) 0 (eE (true) (true) (ah / 2 ^ min n 63) (9223372036854775807))))).c1; clear hx))
  all_goals go_wp2_with fail
  all_goals refine bodyPost_ret (by simp [results, Tryz.results201, go_sem, e0, e1]; try rfl) rfl ?_
  all_goals exact ⟨rfl, (hG.out.set (by omega) _).set (by omega) _⟩
end Go.Proofs.YtekenpgagfmgkaaGreat
