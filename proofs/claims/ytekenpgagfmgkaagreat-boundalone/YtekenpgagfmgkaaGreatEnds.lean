/- Towards the statements of package span (layer 4): what comes at both ends of rows, asked of each closure: the generic functions ends, straight, crossed. -/
import Derived.Test.YtekenpgagfmgkaaGreatRowB
namespace Go.Proofs.YtekenpgagfmgkaaGreat
open Go.ChangeShapes Go.WideShapes Go.ChangeAt Go.RowKit
set_option linter.unusedVariables false
set_option maxRecDepth 20000

/-- What comes, if it is a number at both ends; else the whole. -/
def eE (p q : Bool) (r d : Int) : Int := if p && q then r else d
/-- Of a row without numbers: the answer d. -/
def eN (n : Bool) (d r : Int) : Int := if n then d else r
set_option maxHeartbeats 2000000 in
theorem ends_add (al ah bl bh wl wh : Int) (h1 : InU al) (h2 : InU ah) (h3 : InU bl) (h4 : InU bh) (w : World) : Calls Tryz.prog 215 #[.agg #[.int .u64 al, .int .u64 ah], .agg #[.int .u64 bl, .int .u64 bh], .agg #[.int .u64 wl, .int .u64 wh], .func (.func 206) #[] #[]] w fun e w' => e = .returned (.agg #[.int .u64 (eE (decide (al + bl ≤ 18446744073709551615)) (decide (ah + bh ≤ 18446744073709551615)) (IntKind.u64.wrap (al + bl)) (wl)), .int .u64 (eE (decide (al + bl ≤ 18446744073709551615)) (decide (ah + bh ≤ 18446744073709551615)) (IntKind.u64.wrap (ah + bh)) (wh))]) ∧ Gr w w' := by
  cases e1 : (decide (al + bl ≤ 18446744073709551615)) <;> cases e2 : (decide (ah + bh ≤ 18446744073709551615))
  all_goals
    go_enter Tryz.func215, Tryz.ntmps215
    go_wp2_with (first
      | (go_at_call 206; refine (add_c _ _ (by assumption) (by assumption) _).mono ?_; rintro e w' ⟨rfl, hw⟩; subst hw))
    go_returns
    exact ⟨by simp [eE], by go_grown, by go_grown⟩
set_option maxHeartbeats 2000000 in
theorem ends_sub (al ah bl bh wl wh : Int) (h1 : InU al) (h2 : InU ah) (h3 : InU bl) (h4 : InU bh) (w : World) : Calls Tryz.prog 215 #[.agg #[.int .u64 al, .int .u64 ah], .agg #[.int .u64 bl, .int .u64 bh], .agg #[.int .u64 wl, .int .u64 wh], .func (.func 210) #[] #[]] w fun e w' => e = .returned (.agg #[.int .u64 (eE (decide (bl ≤ al)) (decide (bh ≤ ah)) (IntKind.u64.wrap (al - bl)) (wl)), .int .u64 (eE (decide (bl ≤ al)) (decide (bh ≤ ah)) (IntKind.u64.wrap (ah - bh)) (wh))]) ∧ Gr w w' := by
  cases e1 : (decide (bl ≤ al)) <;> cases e2 : (decide (bh ≤ ah))
  all_goals
    go_enter Tryz.func215, Tryz.ntmps215
    go_wp2_with (first
      | (go_at_call 210; refine (sub_c _ _ (by assumption) (by assumption) _).mono ?_; rintro e w' ⟨rfl, hw⟩; subst hw))
    go_returns
    exact ⟨by simp [eE], by go_grown, by go_grown⟩
set_option maxHeartbeats 2000000 in
theorem ends_mul (al ah bl bh wl wh : Int) (h1 : InU al) (h2 : InU ah) (h3 : InU bl) (h4 : InU bh) (w : World) : Calls Tryz.prog 215 #[.agg #[.int .u64 al, .int .u64 ah], .agg #[.int .u64 bl, .int .u64 bh], .agg #[.int .u64 wl, .int .u64 wh], .func (.func 213) #[] #[]] w fun e w' => e = .returned (.agg #[.int .u64 (eE (decide (al * bl ≤ 18446744073709551615)) (decide (ah * bh ≤ 18446744073709551615)) (IntKind.u64.wrap (al * bl)) (wl)), .int .u64 (eE (decide (al * bl ≤ 18446744073709551615)) (decide (ah * bh ≤ 18446744073709551615)) (IntKind.u64.wrap (ah * bh)) (wh))]) ∧ Gr w w' := by
  cases e1 : (decide (al * bl ≤ 18446744073709551615)) <;> cases e2 : (decide (ah * bh ≤ 18446744073709551615))
  all_goals
    go_enter Tryz.func215, Tryz.ntmps215
    go_wp2_with (first
      | (go_at_call 213; refine (mul_c _ _ (by assumption) (by assumption) _).mono ?_; rintro e w' ⟨rfl, hw⟩; subst hw))
    go_returns
    exact ⟨by simp [eE], by go_grown, by go_grown⟩
set_option maxHeartbeats 2000000 in
theorem ends_div (al ah bl bh wl wh : Int) (h1 : InU al) (h2 : InU ah) (h3 : InU bl) (h4 : InU bh) (k1 : 0 < bl) (k2 : 0 < bh) (w : World) : Calls Tryz.prog 215 #[.agg #[.int .u64 al, .int .u64 ah], .agg #[.int .u64 bl, .int .u64 bh], .agg #[.int .u64 wl, .int .u64 wh], .func (.func 190) #[] #[]] w fun e w' => e = .returned (.agg #[.int .u64 (eE (true) (true) (al / bl) (wl)), .int .u64 (eE (true) (true) (ah / bh) (wh))]) ∧ Gr w w' := by
  go_enter Tryz.func215, Tryz.ntmps215
  go_wp2_with (first
    | (go_at_call 190; refine (div_c _ _ (by assumption) (by assumption) (by assumption) _).mono ?_; rintro e w' ⟨rfl, hw⟩; subst hw))
  go_returns
  exact ⟨by simp [eE], by go_grown, by go_grown⟩
set_option maxHeartbeats 2000000 in
theorem ends_shl (al ah bl bh wl wh : Int) (h1 : InU al) (h2 : InU ah) (h3 : InU bl) (h4 : InU bh) (n : Nat) (c : Addr) (w : World) (hn : w.cell? c = some (.int .u64 (n : Int))) : Calls Tryz.prog 215 #[.agg #[.int .u64 al, .int .u64 ah], .agg #[.int .u64 bl, .int .u64 bh], .agg #[.int .u64 wl, .int .u64 wh], .func (.func 216) #[] #[.pointer (some c)]] w fun e w' => e = .returned (.agg #[.int .u64 (eE ((decide (n ≤ 63) && decide (al * 2 ^ n ≤ 18446744073709551615))) ((decide (n ≤ 63) && decide (ah * 2 ^ n ≤ 18446744073709551615))) (IntKind.u64.wrap (al * 2 ^ min n 64)) (wl)), .int .u64 (eE ((decide (n ≤ 63) && decide (al * 2 ^ n ≤ 18446744073709551615))) ((decide (n ≤ 63) && decide (ah * 2 ^ n ≤ 18446744073709551615))) (IntKind.u64.wrap (ah * 2 ^ min n 64)) (wh))]) ∧ Gr w w' := by
  cases e1 : ((decide (n ≤ 63) && decide (al * 2 ^ n ≤ 18446744073709551615))) <;> cases e2 : ((decide (n ≤ 63) && decide (ah * 2 ^ n ≤ 18446744073709551615)))
  all_goals
    go_enter Tryz.func215, Tryz.ntmps215
    go_wp2_with (first
      | (go_at_call 216; refine (shl_c _ _ (by assumption) (by assumption) n c _ (by repeat (with_reducible (first | assumption | apply cell_al | apply cell_dr)))).mono ?_; rintro e w' ⟨rfl, hw⟩; subst hw))
    go_returns
    exact ⟨by simp [eE], by go_grown, by go_grown⟩
set_option maxHeartbeats 2000000 in
theorem ends_shr (al ah bl bh wl wh : Int) (h1 : InU al) (h2 : InU ah) (h3 : InU bl) (h4 : InU bh) (n : Nat) (c : Addr) (w : World) (hn : w.cell? c = some (.int .u64 (n : Int))) : Calls Tryz.prog 215 #[.agg #[.int .u64 al, .int .u64 ah], .agg #[.int .u64 bl, .int .u64 bh], .agg #[.int .u64 wl, .int .u64 wh], .func (.func 217) #[] #[.pointer (some c)]] w fun e w' => e = .returned (.agg #[.int .u64 (eE (true) (true) (al / 2 ^ min n 64) (wl)), .int .u64 (eE (true) (true) (ah / 2 ^ min n 64) (wh))]) ∧ Gr w w' := by
  go_enter Tryz.func215, Tryz.ntmps215
  go_wp2_with (first
    | (go_at_call 217; refine (shr_c _ _ (by assumption) (by assumption) n c _ (by repeat (with_reducible (first | assumption | apply cell_al | apply cell_dr)))).mono ?_; rintro e w' ⟨rfl, hw⟩; subst hw))
  go_returns
  exact ⟨by simp [eE], by go_grown, by go_grown⟩
set_option maxHeartbeats 2000000 in
theorem ends_plus (al ah bl bh wl wh : Int) (h1 : InS al) (h2 : InS ah) (h3 : InS bl) (h4 : InS bh) (w : World) : Calls Tryz.prog 220 #[.agg #[.int .i64 al, .int .i64 ah], .agg #[.int .i64 bl, .int .i64 bh], .agg #[.int .i64 wl, .int .i64 wh], .func (.func 209) #[] #[]] w fun e w' => e = .returned (.agg #[.int .i64 (eE (decide (-9223372036854775808 ≤ al + bl) && decide (al + bl ≤ 9223372036854775807)) (decide (-9223372036854775808 ≤ ah + bh) && decide (ah + bh ≤ 9223372036854775807)) (wrap64 (al + bl)) (wl)), .int .i64 (eE (decide (-9223372036854775808 ≤ al + bl) && decide (al + bl ≤ 9223372036854775807)) (decide (-9223372036854775808 ≤ ah + bh) && decide (ah + bh ≤ 9223372036854775807)) (wrap64 (ah + bh)) (wh))]) ∧ Gr w w' := by
  cases e1 : (decide (-9223372036854775808 ≤ al + bl) && decide (al + bl ≤ 9223372036854775807)) <;> cases e2 : (decide (-9223372036854775808 ≤ ah + bh) && decide (ah + bh ≤ 9223372036854775807))
  all_goals
    go_enter Tryz.func220, Tryz.ntmps220
    go_wp2_with (first
      | (go_at_call 209; refine (plus_c _ _ (by assumption) (by assumption) _).mono ?_; rintro e w' ⟨rfl, hw⟩; subst hw))
    go_returns
    exact ⟨by simp [eE], by go_grown, by go_grown⟩
set_option maxHeartbeats 2000000 in
theorem ends_minus (al ah bl bh wl wh : Int) (h1 : InS al) (h2 : InS ah) (h3 : InS bl) (h4 : InS bh) (w : World) : Calls Tryz.prog 220 #[.agg #[.int .i64 al, .int .i64 ah], .agg #[.int .i64 bl, .int .i64 bh], .agg #[.int .i64 wl, .int .i64 wh], .func (.func 212) #[] #[]] w fun e w' => e = .returned (.agg #[.int .i64 (eE (decide (-9223372036854775808 ≤ al - bl) && decide (al - bl ≤ 9223372036854775807)) (decide (-9223372036854775808 ≤ ah - bh) && decide (ah - bh ≤ 9223372036854775807)) (wrap64 (al - bl)) (wl)), .int .i64 (eE (decide (-9223372036854775808 ≤ al - bl) && decide (al - bl ≤ 9223372036854775807)) (decide (-9223372036854775808 ≤ ah - bh) && decide (ah - bh ≤ 9223372036854775807)) (wrap64 (ah - bh)) (wh))]) ∧ Gr w w' := by
  cases e1 : (decide (-9223372036854775808 ≤ al - bl) && decide (al - bl ≤ 9223372036854775807)) <;> cases e2 : (decide (-9223372036854775808 ≤ ah - bh) && decide (ah - bh ≤ 9223372036854775807))
  all_goals
    go_enter Tryz.func220, Tryz.ntmps220
    go_wp2_with (first
      | (go_at_call 212; refine (minus_c _ _ (by assumption) (by assumption) _).mono ?_; rintro e w' ⟨rfl, hw⟩; subst hw))
    go_returns
    exact ⟨by simp [eE], by go_grown, by go_grown⟩
set_option maxHeartbeats 2000000 in
theorem ends_sar (al ah bl bh wl wh : Int) (h1 : InS al) (h2 : InS ah) (h3 : InS bl) (h4 : InS bh) (n : Nat) (c : Addr) (w : World) (hn : w.cell? c = some (.int .u64 (n : Int))) : Calls Tryz.prog 220 #[.agg #[.int .i64 al, .int .i64 ah], .agg #[.int .i64 bl, .int .i64 bh], .agg #[.int .i64 wl, .int .i64 wh], .func (.func 219) #[] #[.pointer (some c)]] w fun e w' => e = .returned (.agg #[.int .i64 (eE (true) (true) (al / 2 ^ min n 63) (wl)), .int .i64 (eE (true) (true) (ah / 2 ^ min n 63) (wh))]) ∧ Gr w w' := by
  go_enter Tryz.func220, Tryz.ntmps220
  go_wp2_with (first
    | (go_at_call 219; refine (sar_c _ _ (by assumption) (by assumption) n c _ (by repeat (with_reducible (first | assumption | apply cell_al | apply cell_dr)))).mono ?_; rintro e w' ⟨rfl, hw⟩; subst hw))
  go_returns
  exact ⟨by simp [eE], by go_grown, by go_grown⟩
end Go.Proofs.YtekenpgagfmgkaaGreat
