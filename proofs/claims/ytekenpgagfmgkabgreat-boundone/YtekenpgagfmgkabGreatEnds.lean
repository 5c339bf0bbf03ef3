/- Towards the statements of package span (layer 4): what comes at both ends of rows, asked of each closure: the generic functions ends, straight, crossed. -/
import Derived.Test.YtekenpgagfmgkabGreatRowB
namespace Go.Proofs.YtekenpgagfmgkabGreat
open Go.ChangeShapes Go.WideShapes Go.ChangeAt Go.RowKit
set_option linter.unusedVariables false
set_option maxRecDepth 20000

/-- What comes, if it is a number at both ends; else the whole. -/
def eE (p q : Bool) (r d : Int) : Int := if p && q then r else d
/-- Of a row without numbers: the answer d. -/
def eN (n : Bool) (d r : Int) : Int := if n then d else r
set_option maxHeartbeats 2000000 in
theorem ends_add (al ah bl bh wl wh : Int) (h1 : InU al) (h2 : InU ah) (h3 : InU bl) (h4 : InU bh) (w : World) : Calls Tryz.prog 236 #[.agg #[.int .u64 al, .int .u64 ah], .agg #[.int .u64 bl, .int .u64 bh], .agg #[.int .u64 wl, .int .u64 wh], .func (.func 227) #[] #[]] w fun e w' => e = .returned (.agg #[.int .u64 (eE (decide (al + bl ≤ 18446744073709551615)) (decide (ah + bh ≤ 18446744073709551615)) (IntKind.u64.wrap (al + bl)) (wl)), .int .u64 (eE (decide (al + bl ≤ 18446744073709551615)) (decide (ah + bh ≤ 18446744073709551615)) (IntKind.u64.wrap (ah + bh)) (wh))]) ∧ Gr w w' := by
  cases e1 : (decide (al + bl ≤ 18446744073709551615)) <;> cases e2 : (decide (ah + bh ≤ 18446744073709551615))
  all_goals
    go_enter Tryz.func236, Tryz.ntmps236
    go_wp2_with (first
      | (go_at_call 227; refine (add_c _ _ (by assumption) (by assumption) _).mono ?_; rintro e w' ⟨rfl, hw⟩; subst hw))
    go_returns
    exact ⟨by simp [eE], by go_grown, by go_grown⟩
set_option maxHeartbeats 2000000 in
theorem ends_sub (al ah bl bh wl wh : Int) (h1 : InU al) (h2 : InU ah) (h3 : InU bl) (h4 : InU bh) (w : World) : Calls Tryz.prog 236 #[.agg #[.int .u64 al, .int .u64 ah], .agg #[.int .u64 bl, .int .u64 bh], .agg #[.int .u64 wl, .int .u64 wh], .func (.func 231) #[] #[]] w fun e w' => e = .returned (.agg #[.int .u64 (eE (decide (bl ≤ al)) (decide (bh ≤ ah)) (IntKind.u64.wrap (al - bl)) (wl)), .int .u64 (eE (decide (bl ≤ al)) (decide (bh ≤ ah)) (IntKind.u64.wrap (ah - bh)) (wh))]) ∧ Gr w w' := by
  cases e1 : (decide (bl ≤ al)) <;> cases e2 : (decide (bh ≤ ah))
  all_goals
    go_enter Tryz.func236, Tryz.ntmps236
    go_wp2_with (first
      | (go_at_call 231; refine (sub_c _ _ (by assumption) (by assumption) _).mono ?_; rintro e w' ⟨rfl, hw⟩; subst hw))
    go_returns
    exact ⟨by simp [eE], by go_grown, by go_grown⟩
set_option maxHeartbeats 2000000 in
theorem ends_mul (al ah bl bh wl wh : Int) (h1 : InU al) (h2 : InU ah) (h3 : InU bl) (h4 : InU bh) (w : World) : Calls Tryz.prog 236 #[.agg #[.int .u64 al, .int .u64 ah], .agg #[.int .u64 bl, .int .u64 bh], .agg #[.int .u64 wl, .int .u64 wh], .func (.func 234) #[] #[]] w fun e w' => e = .returned (.agg #[.int .u64 (eE (decide (al * bl ≤ 18446744073709551615)) (decide (ah * bh ≤ 18446744073709551615)) (IntKind.u64.wrap (al * bl)) (wl)), .int .u64 (eE (decide (al * bl ≤ 18446744073709551615)) (decide (ah * bh ≤ 18446744073709551615)) (IntKind.u64.wrap (ah * bh)) (wh))]) ∧ Gr w w' := by
  cases e1 : (decide (al * bl ≤ 18446744073709551615)) <;> cases e2 : (decide (ah * bh ≤ 18446744073709551615))
  all_goals
    go_enter Tryz.func236, Tryz.ntmps236
    go_wp2_with (first
      | (go_at_call 234; refine (mul_c _ _ (by assumption) (by assumption) _).mono ?_; rintro e w' ⟨rfl, hw⟩; subst hw))
    go_returns
    exact ⟨by simp [eE], by go_grown, by go_grown⟩
set_option maxHeartbeats 2000000 in
theorem ends_div (al ah bl bh wl wh : Int) (h1 : InU al) (h2 : InU ah) (h3 : InU bl) (h4 : InU bh) (k1 : 0 < bl) (k2 : 0 < bh) (w : World) : Calls Tryz.prog 236 #[.agg #[.int .u64 al, .int .u64 ah], .agg #[.int .u64 bl, .int .u64 bh], .agg #[.int .u64 wl, .int .u64 wh], .func (.func 203) #[] #[]] w fun e w' => e = .returned (.agg #[.int .u64 (eE (true) (true) (al / bl) (wl)), .int .u64 (eE (true) (true) (ah / bh) (wh))]) ∧ Gr w w' := by
  go_enter Tryz.func236, Tryz.ntmps236
  go_wp2_with (first
    | (go_at_call 203; refine (div_c _ _ (by assumption) (by assumption) (by assumption) _).mono ?_; rintro e w' ⟨rfl, hw⟩; subst hw))
  go_returns
  exact ⟨by simp [eE], by go_grown, by go_grown⟩
set_option maxHeartbeats 2000000 in
theorem ends_shl (al ah bl bh wl wh : Int) (h1 : InU al) (h2 : InU ah) (h3 : InU bl) (h4 : InU bh) (n : Nat) (c : Addr) (w : World) (hn : w.cell? c = some (.int .u64 (n : Int))) : Calls Tryz.prog 236 #[.agg #[.int .u64 al, .int .u64 ah], .agg #[.int .u64 bl, .int .u64 bh], .agg #[.int .u64 wl, .int .u64 wh], .func (.func 237) #[] #[.pointer (some c)]] w fun e w' => e = .returned (.agg #[.int .u64 (eE ((decide (n ≤ 63) && decide (al * 2 ^ n ≤ 18446744073709551615))) ((decide (n ≤ 63) && decide (ah * 2 ^ n ≤ 18446744073709551615))) (IntKind.u64.wrap (al * 2 ^ min n 64)) (wl)), .int .u64 (eE ((decide (n ≤ 63) && decide (al * 2 ^ n ≤ 18446744073709551615))) ((decide (n ≤ 63) && decide (ah * 2 ^ n ≤ 18446744073709551615))) (IntKind.u64.wrap (ah * 2 ^ min n 64)) (wh))]) ∧ Gr w w' := by
  cases e1 : ((decide (n ≤ 63) && decide (al * 2 ^ n ≤ 18446744073709551615))) <;> cases e2 : ((decide (n ≤ 63) && decide (ah * 2 ^ n ≤ 18446744073709551615)))
  all_goals
    go_enter Tryz.func236, Tryz.ntmps236
    go_wp2_with (first
      | (go_at_call 237; refine (shl_c _ _ (by assumption) (by assumption) n c _ (by repeat (with_reducible (first | assumption | apply cell_al | apply cell_dr)))).mono ?_; rintro e w' ⟨rfl, hw⟩; subst hw))
    go_returns
    exact ⟨by simp [eE], by go_grown, by go_grown⟩
set_option maxHeartbeats 2000000 in
theorem ends_shr (al ah bl bh wl wh : Int) (h1 : InU al) (h2 : InU ah) (h3 : InU bl) (h4 : InU bh) (n : Nat) (c : Addr) (w : World) (hn : w.cell? c = some (.int .u64 (n : Int))) : Calls Tryz.prog 236 #[.agg #[.int .u64 al, .int .u64 ah], .agg #[.int .u64 bl, .int .u64 bh], .agg #[.int .u64 wl, .int .u64 wh], .func (.func 238) #[] #[.pointer (some c)]] w fun e w' => e = .returned (.agg #[.int .u64 (eE (true) (true) (al / 2 ^ min n 64) (wl)), .int .u64 (eE (true) (true) (ah / 2 ^ min n 64) (wh))]) ∧ Gr w w' := by
  go_enter Tryz.func236, Tryz.ntmps236
  go_wp2_with (first
    | (go_at_call 238; refine (shr_c _ _ (by assumption) (by assumption) n c _ (by repeat (with_reducible (first | assumption | apply cell_al | apply cell_dr)))).mono ?_; rintro e w' ⟨rfl, hw⟩; subst hw))
  go_returns
  exact ⟨by simp [eE], by go_grown, by go_grown⟩
set_option maxHeartbeats 2000000 in
theorem ends_plus (al ah bl bh wl wh : Int) (h1 : InS al) (h2 : InS ah) (h3 : InS bl) (h4 : InS bh) (w : World) : Calls Tryz.prog 249 #[.agg #[.int .i64 al, .int .i64 ah], .agg #[.int .i64 bl, .int .i64 bh], .agg #[.int .i64 wl, .int .i64 wh], .func (.func 230) #[] #[]] w fun e w' => e = .returned (.agg #[.int .i64 (eE (decide (-9223372036854775808 ≤ al + bl) && decide (al + bl ≤ 9223372036854775807)) (decide (-9223372036854775808 ≤ ah + bh) && decide (ah + bh ≤ 9223372036854775807)) (wrap64 (al + bl)) (wl)), .int .i64 (eE (decide (-9223372036854775808 ≤ al + bl) && decide (al + bl ≤ 9223372036854775807)) (decide (-9223372036854775808 ≤ ah + bh) && decide (ah + bh ≤ 9223372036854775807)) (wrap64 (ah + bh)) (wh))]) ∧ Gr w w' := by
  cases e1 : (decide (-9223372036854775808 ≤ al + bl) && decide (al + bl ≤ 9223372036854775807)) <;> cases e2 : (decide (-9223372036854775808 ≤ ah + bh) && decide (ah + bh ≤ 9223372036854775807))
  all_goals
    go_enter Tryz.func249, Tryz.ntmps249
    go_wp2_with (first
      | (go_at_call 230; refine (plus_c _ _ (by assumption) (by assumption) _).mono ?_; rintro e w' ⟨rfl, hw⟩; subst hw))
    go_returns
    exact ⟨by simp [eE], by go_grown, by go_grown⟩
set_option maxHeartbeats 2000000 in
theorem ends_minus (al ah bl bh wl wh : Int) (h1 : InS al) (h2 : InS ah) (h3 : InS bl) (h4 : InS bh) (w : World) : Calls Tryz.prog 249 #[.agg #[.int .i64 al, .int .i64 ah], .agg #[.int .i64 bl, .int .i64 bh], .agg #[.int .i64 wl, .int .i64 wh], .func (.func 233) #[] #[]] w fun e w' => e = .returned (.agg #[.int .i64 (eE (decide (-9223372036854775808 ≤ al - bl) && decide (al - bl ≤ 9223372036854775807)) (decide (-9223372036854775808 ≤ ah - bh) && decide (ah - bh ≤ 9223372036854775807)) (wrap64 (al - bl)) (wl)), .int .i64 (eE (decide (-9223372036854775808 ≤ al - bl) && decide (al - bl ≤ 9223372036854775807)) (decide (-9223372036854775808 ≤ ah - bh) && decide (ah - bh ≤ 9223372036854775807)) (wrap64 (ah - bh)) (wh))]) ∧ Gr w w' := by
  cases e1 : (decide (-9223372036854775808 ≤ al - bl) && decide (al - bl ≤ 9223372036854775807)) <;> cases e2 : (decide (-9223372036854775808 ≤ ah - bh) && decide (ah - bh ≤ 9223372036854775807))
  all_goals
    go_enter Tryz.func249, Tryz.ntmps249
    go_wp2_with (first
      | (go_at_call 233; refine (minus_c _ _ (by assumption) (by assumption) _).mono ?_; rintro e w' ⟨rfl, hw⟩; subst hw))
    go_returns
    exact ⟨by simp [eE], by go_grown, by go_grown⟩
set_option maxHeartbeats 2000000 in
theorem ends_sar (al ah bl bh wl wh : Int) (h1 : InS al) (h2 : InS ah) (h3 : InS bl) (h4 : InS bh) (n : Nat) (c : Addr) (w : World) (hn : w.cell? c = some (.int .u64 (n : Int))) : Calls Tryz.prog 249 #[.agg #[.int .i64 al, .int .i64 ah], .agg #[.int .i64 bl, .int .i64 bh], .agg #[.int .i64 wl, .int .i64 wh], .func (.func 240) #[] #[.pointer (some c)]] w fun e w' => e = .returned (.agg #[.int .i64 (eE (true) (true) (al / 2 ^ min n 63) (wl)), .int .i64 (eE (true) (true) (ah / 2 ^ min n 63) (wh))]) ∧ Gr w w' := by
  go_enter Tryz.func249, Tryz.ntmps249
  go_wp2_with (first
    | (go_at_call 240; refine (sar_c _ _ (by assumption) (by assumption) n c _ (by repeat (with_reducible (first | assumption | apply cell_al | apply cell_dr)))).mono ?_; rintro e w' ⟨rfl, hw⟩; subst hw))
  go_returns
  exact ⟨by simp [eE], by go_grown, by go_grown⟩
end Go.Proofs.YtekenpgagfmgkabGreat
