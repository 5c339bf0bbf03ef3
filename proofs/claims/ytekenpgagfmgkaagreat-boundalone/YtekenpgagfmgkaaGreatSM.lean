/- Towards the statements of package span (layer 4): whatever is done with numbers of rows is a number of what is done with these. -/
import Derived.Test.YtekenpgagfmgkaaGreatSmall
namespace Go.Proofs.YtekenpgagfmgkaaGreat
open Go.ChangeShapes Go.WideShapes Go.ChangeAt Go.RowKit
set_option linter.unusedVariables false
set_option maxRecDepth 20000

theorem has_yes {l h x : Int} (h1 : l ≤ x) (h2 : x ≤ h) : (decide (l ≤ x) && decide (x ≤ h)) = true := by
  rw [decide_eq_true h1, decide_eq_true h2]; rfl
theorem some_row {al ah x : Int} (n1 : al ≤ x) (n2 : x ≤ ah) : decide (ah < al) = false := decide_eq_false (by omega)
theorem eN_no (d r : Int) : eN false d r = r := rfl
theorem eE_yes (r d : Int) : eE true true r d = r := rfl
theorem eE_no (p q : Bool) (h : p = false ∨ q = false) (r d : Int) : eE p q r d = d := by
  rcases h with rfl | rfl
  · rfl
  · cases p <;> rfl
/-- Flags at both ends: either both tell a number, or the whole comes. -/
theorem eE_in {p q : Bool} {r s wl wh v : Int} (hw : wl ≤ v ∧ v ≤ wh) (h : p = true → q = true → r ≤ v ∧ v ≤ s) : (decide (eE p q r wl ≤ v) && decide (v ≤ eE p q s wh)) = true := by
  cases p
  · rw [eE_no false q (Or.inl rfl), eE_no false q (Or.inl rfl)]; exact has_yes hw.1 hw.2
  · cases q
    · rw [eE_no true false (Or.inr rfl), eE_no true false (Or.inr rfl)]; exact has_yes hw.1 hw.2
    · rw [eE_yes, eE_yes]; exact has_yes (h rfl rfl).1 (h rfl rfl).2
theorem add_in {al ah bl bh x y : Int} (i0 : InU al) (i1 : InU ah) (i2 : InU bl) (i3 : InU bh) (n1 : al ≤ x) (n2 : x ≤ ah) (n3 : bl ≤ y) (n4 : y ≤ bh) : (decide (eN (decide (ah < al) || decide (bh < bl)) 1 (eE (decide (al + bl ≤ 18446744073709551615)) (decide (ah + bh ≤ 18446744073709551615)) (IntKind.u64.wrap (al + bl)) (0)) ≤ IntKind.u64.wrap (x + y)) && decide (IntKind.u64.wrap (x + y) ≤ eN (decide (ah < al) || decide (bh < bl)) 0 (eE (decide (al + bl ≤ 18446744073709551615)) (decide (ah + bh ≤ 18446744073709551615)) (IntKind.u64.wrap (ah + bh)) (18446744073709551615)))) = true := by
  rw [some_row n1 n2, some_row n3 n4, Bool.or_self, eN_no, eN_no]
  unfold InU at *
  refine eE_in (wrap_u _) fun h k => ?_
  have h := of_decide_eq_true h
  have k := of_decide_eq_true k
  rw [wrap_inU (by unfold InU; omega), wrap_inU (by unfold InU; omega), wrap_inU (by unfold InU; omega)]
  omega
theorem sub_in {al ah bl bh x y : Int} (i0 : InU al) (i1 : InU ah) (i2 : InU bl) (i3 : InU bh) (n1 : al ≤ x) (n2 : x ≤ ah) (n3 : bl ≤ y) (n4 : y ≤ bh) : (decide (eN (decide (ah < al) || decide (bh < bl)) 1 (eE (decide (bh ≤ al)) (decide (bl ≤ ah)) (IntKind.u64.wrap (al - bh)) (0)) ≤ IntKind.u64.wrap (x - y)) && decide (IntKind.u64.wrap (x - y) ≤ eN (decide (ah < al) || decide (bh < bl)) 0 (eE (decide (bh ≤ al)) (decide (bl ≤ ah)) (IntKind.u64.wrap (ah - bl)) (18446744073709551615)))) = true := by
  rw [some_row n1 n2, some_row n3 n4, Bool.or_self, eN_no, eN_no]
  unfold InU at *
  refine eE_in (wrap_u _) fun h k => ?_
  have h := of_decide_eq_true h
  have k := of_decide_eq_true k
  rw [wrap_inU (by unfold InU; omega), wrap_inU (by unfold InU; omega), wrap_inU (by unfold InU; omega)]
  omega
theorem mul_in {al ah bl bh x y : Int} (i0 : InU al) (i1 : InU ah) (i2 : InU bl) (i3 : InU bh) (n1 : al ≤ x) (n2 : x ≤ ah) (n3 : bl ≤ y) (n4 : y ≤ bh) : (decide (eN (decide (ah < al) || decide (bh < bl)) 1 (eE (decide (al * bl ≤ 18446744073709551615)) (decide (ah * bh ≤ 18446744073709551615)) (IntKind.u64.wrap (al * bl)) (0)) ≤ IntKind.u64.wrap (x * y)) && decide (IntKind.u64.wrap (x * y) ≤ eN (decide (ah < al) || decide (bh < bl)) 0 (eE (decide (al * bl ≤ 18446744073709551615)) (decide (ah * bh ≤ 18446744073709551615)) (IntKind.u64.wrap (ah * bh)) (18446744073709551615)))) = true := by
  rw [some_row n1 n2, some_row n3 n4, Bool.or_self, eN_no, eN_no]
  unfold InU at *
  have m1 : al * bl ≤ x * y := Int.mul_le_mul n1 n3 i2.1 (by omega)
  have m2 : x * y ≤ ah * bh := Int.mul_le_mul n2 n4 (by omega) (by omega)
  have m0 : 0 ≤ al * bl := Int.mul_nonneg i0.1 i2.1
  refine eE_in (wrap_u _) fun h k => ?_
  have h := of_decide_eq_true h
  have k := of_decide_eq_true k
  rw [wrap_inU (by unfold InU; omega), wrap_inU (by unfold InU; omega), wrap_inU (by unfold InU; omega)]
  omega
/-- By 0 comes 0. -/
theorem div_in {al ah bl bh x y : Int} (i0 : InU al) (i1 : InU ah) (i2 : InU bl) (i3 : InU bh) (n1 : al ≤ x) (n2 : x ≤ ah) (n3 : bl ≤ y) (n4 : y ≤ bh) (v : Int) (hv : v = if y = 0 then 0 else x / y) : (decide (eN (decide (ah < al) || decide (bh < bl)) 1 (eN (decide (bl ≤ 0) && decide (0 ≤ bh)) 0 (al / bh)) ≤ v) && decide (v ≤ eN (decide (ah < al) || decide (bh < bl)) 0 (eN (decide (bl ≤ 0) && decide (0 ≤ bh)) ah (ah / bl)))) = true := by
  rw [some_row n1 n2, some_row n3 n4, Bool.or_self, eN_no, eN_no]
  unfold InU at *
  cases z : (decide (bl ≤ 0) && decide (0 ≤ bh))
  · have hb : 0 < bl := by
      rcases Int.lt_or_le 0 bl with h | h
      · exact h
      · rw [decide_eq_true h, decide_eq_true (show 0 ≤ bh by omega)] at z; cases z
    rw [eN_no, eN_no, hv, if_neg (show ¬ y = 0 by omega)]
    refine has_yes ?_ ?_
    · refine Int.le_trans (Int.ediv_le_ediv (show 0 < bh by omega) n1) ?_
      rw [Int.le_ediv_iff_mul_le (show 0 < y by omega)]
      refine Int.le_trans (Int.mul_le_mul_of_nonneg_left n4 (Int.ediv_nonneg (by omega) (by omega))) ?_
      exact Int.ediv_mul_le x (by omega)
    · rw [Int.le_ediv_iff_mul_le hb]
      refine Int.le_trans (Int.mul_le_mul_of_nonneg_left n3 (Int.ediv_nonneg (by omega) (by omega))) ?_
      refine Int.le_trans (Int.ediv_mul_le x (by omega)) n2
  · show (decide (0 ≤ v) && decide (v ≤ ah)) = true
    have hq : 0 ≤ x / y := Int.ediv_nonneg (by omega) (by omega)
    have hq2 : x / y ≤ x := Int.ediv_le_self _ (by omega)
    refine has_yes ?_ ?_ <;> (rw [hv]; split <;> omega)
theorem mod_in {al ah bl bh x y : Int} (i0 : InU al) (i1 : InU ah) (i2 : InU bl) (i3 : InU bh) (n1 : al ≤ x) (n2 : x ≤ ah) (n3 : bl ≤ y) (n4 : y ≤ bh) (v : Int) (hv : v = if y = 0 then x else x % y) : (decide (eN (decide (ah < al) || decide (bh < bl)) 1 (eN (decide (bl ≤ 0) && decide (0 ≤ bh)) 0 (0)) ≤ v) && decide (v ≤ eN (decide (ah < al) || decide (bh < bl)) 0 (eN (decide (bl ≤ 0) && decide (0 ≤ bh)) ah (eN (decide (bh - 1 < ah)) (bh - 1) ah)))) = true := by
  rw [some_row n1 n2, some_row n3 n4, Bool.or_self, eN_no, eN_no]
  unfold InU at *
  have hx : y ≠ 0 → 0 ≤ x % y ∧ x % y < y ∧ x % y ≤ x := fun h => ⟨Int.emod_nonneg _ h, Int.emod_lt_of_pos _ (by omega), by have h1 := Int.emod_add_mul_ediv x y; have h2 : 0 ≤ y * (x / y) := Int.mul_nonneg (by omega) (Int.ediv_nonneg (by omega) (by omega)); omega⟩
  cases z : (decide (bl ≤ 0) && decide (0 ≤ bh))
  · have hb : 0 < bl := by
      rcases Int.lt_or_le 0 bl with h | h
      · exact h
      · rw [decide_eq_true h, decide_eq_true (show 0 ≤ bh by omega)] at z; cases z
    have hx := hx (by omega)
    rw [eN_no, eN_no, hv, if_neg (show ¬ y = 0 by omega)]
    refine has_yes (by omega) ?_
    cases c : decide (bh - 1 < ah)
    · rw [eN_no]; omega
    · show x % y ≤ bh - 1
      omega
  · show (decide (0 ≤ v) && decide (v ≤ ah)) = true
    by_cases hy : y = 0
    · rw [if_pos hy] at hv
      exact has_yes (by omega) (by omega)
    · have hx := hx hy
      rw [if_neg hy] at hv
      exact has_yes (by omega) (by omega)
theorem shl_in {al ah x : Int} (i0 : InU al) (i1 : InU ah) (i2 : InU x) (n : Nat) (n1 : al ≤ x) (n2 : x ≤ ah) : (decide (eN (decide (ah < al)) 1 (eE ((decide (n ≤ 63) && decide (al * 2 ^ n ≤ 18446744073709551615))) ((decide (n ≤ 63) && decide (ah * 2 ^ n ≤ 18446744073709551615))) (IntKind.u64.wrap (al * 2 ^ min n 64)) (0)) ≤ IntKind.u64.wrap (x * 2 ^ min n 64)) && decide (IntKind.u64.wrap (x * 2 ^ min n 64) ≤ eN (decide (ah < al)) 0 (eE ((decide (n ≤ 63) && decide (al * 2 ^ n ≤ 18446744073709551615))) ((decide (n ≤ 63) && decide (ah * 2 ^ n ≤ 18446744073709551615))) (IntKind.u64.wrap (ah * 2 ^ min n 64)) (18446744073709551615)))) = true := by
  rw [some_row n1 n2, eN_no, eN_no]
  unfold InU at *
  refine eE_in (wrap_u _) fun h k => ?_
  rw [Bool.and_eq_true] at h k
  have h0 := of_decide_eq_true h.1
  have h := of_decide_eq_true h.2
  have k := of_decide_eq_true k.2
  rw [Nat.min_eq_left (by omega)]
  have hp : (0 : Int) ≤ 2 ^ n := Int.le_of_lt (Int.pow_pos (by omega))
  have m0 : 0 ≤ al * 2 ^ n := Int.mul_nonneg i0.1 hp
  have m1 : al * 2 ^ n ≤ x * 2 ^ n := Int.mul_le_mul_of_nonneg_right n1 hp
  have m2 : x * 2 ^ n ≤ ah * 2 ^ n := Int.mul_le_mul_of_nonneg_right n2 hp
  rw [wrap_inU (by unfold InU; omega), wrap_inU (by unfold InU; omega), wrap_inU (by unfold InU; omega)]
  omega
theorem shr_in {al ah x : Int} (n : Nat) (n1 : al ≤ x) (n2 : x ≤ ah) : (decide (eN (decide (ah < al)) 1 (eE (true) (true) (al / 2 ^ min n 64) (0)) ≤ (x / 2 ^ min n 64)) && decide ((x / 2 ^ min n 64) ≤ eN (decide (ah < al)) 0 (eE (true) (true) (ah / 2 ^ min n 64) (18446744073709551615)))) = true := by
  rw [some_row n1 n2, eN_no, eN_no, eE_yes, eE_yes]
  have hp : (0 : Int) < 2 ^ min n 64 := Int.pow_pos (by omega)
  exact has_yes (Int.ediv_le_ediv hp n1) (Int.ediv_le_ediv hp n2)
theorem plus_in {al ah bl bh x y : Int} (i0 : InS al) (i1 : InS ah) (i2 : InS bl) (i3 : InS bh) (n1 : al ≤ x) (n2 : x ≤ ah) (n3 : bl ≤ y) (n4 : y ≤ bh) : (decide (eN (decide (ah < al) || decide (bh < bl)) 1 (eE (decide (-9223372036854775808 ≤ al + bl) && decide (al + bl ≤ 9223372036854775807)) (decide (-9223372036854775808 ≤ ah + bh) && decide (ah + bh ≤ 9223372036854775807)) (wrap64 (al + bl)) (-9223372036854775808)) ≤ wrap64 (x + y)) && decide (wrap64 (x + y) ≤ eN (decide (ah < al) || decide (bh < bl)) 0 (eE (decide (-9223372036854775808 ≤ al + bl) && decide (al + bl ≤ 9223372036854775807)) (decide (-9223372036854775808 ≤ ah + bh) && decide (ah + bh ≤ 9223372036854775807)) (wrap64 (ah + bh)) (9223372036854775807)))) = true := by
  rw [some_row n1 n2, some_row n3 n4, Bool.or_self, eN_no, eN_no]
  unfold InS at *
  simp only [wrap64]
  refine eE_in (by omega) fun h k => ?_
  rw [Bool.and_eq_true] at h k
  have h1 := of_decide_eq_true h.1
  have k2 := of_decide_eq_true k.2
  omega
theorem minus_in {al ah bl bh x y : Int} (i0 : InS al) (i1 : InS ah) (i2 : InS bl) (i3 : InS bh) (n1 : al ≤ x) (n2 : x ≤ ah) (n3 : bl ≤ y) (n4 : y ≤ bh) : (decide (eN (decide (ah < al) || decide (bh < bl)) 1 (eE (decide (-9223372036854775808 ≤ al - bh) && decide (al - bh ≤ 9223372036854775807)) (decide (-9223372036854775808 ≤ ah - bl) && decide (ah - bl ≤ 9223372036854775807)) (wrap64 (al - bh)) (-9223372036854775808)) ≤ wrap64 (x - y)) && decide (wrap64 (x - y) ≤ eN (decide (ah < al) || decide (bh < bl)) 0 (eE (decide (-9223372036854775808 ≤ al - bh) && decide (al - bh ≤ 9223372036854775807)) (decide (-9223372036854775808 ≤ ah - bl) && decide (ah - bl ≤ 9223372036854775807)) (wrap64 (ah - bl)) (9223372036854775807)))) = true := by
  rw [some_row n1 n2, some_row n3 n4, Bool.or_self, eN_no, eN_no]
  unfold InS at *
  simp only [wrap64]
  refine eE_in (by omega) fun h k => ?_
  rw [Bool.and_eq_true] at h k
  have h1 := of_decide_eq_true h.1
  have k2 := of_decide_eq_true k.2
  omega
theorem sar_in {al ah x : Int} (n : Nat) (n1 : al ≤ x) (n2 : x ≤ ah) : (decide (eN (decide (ah < al)) 1 (eE (true) (true) (al / 2 ^ min n 63) (-9223372036854775808)) ≤ (x / 2 ^ min n 63)) && decide ((x / 2 ^ min n 63) ≤ eN (decide (ah < al)) 0 (eE (true) (true) (ah / 2 ^ min n 63) (9223372036854775807)))) = true := by
  rw [some_row n1 n2, eN_no, eN_no, eE_yes, eE_yes]
  have hp : (0 : Int) < 2 ^ min n 63 := Int.pow_pos (by omega)
  exact has_yes (Int.ediv_le_ediv hp n1) (Int.ediv_le_ediv hp n2)
theorem meet_in {al ah bl bh x : Int} (n1 : al ≤ x) (n2 : x ≤ ah) : (decide (eN (decide (min ah bh < max al bl)) 1 (max al bl) ≤ x) && decide (x ≤ eN (decide (min ah bh < max al bl)) 0 (min ah bh))) = (decide (bl ≤ x) && decide (x ≤ bh)) := by
  cases z : decide (min ah bh < max al bl)
  · have z := of_decide_eq_false z
    rw [eN_no, eN_no]
    rw [← Bool.decide_and, ← Bool.decide_and]
    congr 1
    exact propext ⟨fun h => by omega, fun h => by omega⟩
  · have z := of_decide_eq_true z
    show (decide ((1 : Int) ≤ x) && decide (x ≤ 0)) = _
    rw [← Bool.decide_and, ← Bool.decide_and, decide_eq_false (by omega), decide_eq_false (by omega)]
theorem join_l {al ah bl bh x : Int} (n1 : al ≤ x) (n2 : x ≤ ah) (m : bl ≤ bh) : (decide (eN (decide (ah < al)) (eN (decide (bh < bl)) 1 bl) (eN (decide (bh < bl)) al (min al bl)) ≤ x) && decide (x ≤ eN (decide (ah < al)) (eN (decide (bh < bl)) 0 bh) (eN (decide (bh < bl)) ah (max ah bh)))) = true := by
  rw [some_row n1 n2, decide_eq_false (show ¬ bh < bl by omega)]
  simp only [eN_no]
  exact has_yes (by omega) (by omega)
theorem join_r {al ah bl bh y : Int} (m : al ≤ ah) (n3 : bl ≤ y) (n4 : y ≤ bh) : (decide (eN (decide (ah < al)) (eN (decide (bh < bl)) 1 bl) (eN (decide (bh < bl)) al (min al bl)) ≤ y) && decide (y ≤ eN (decide (ah < al)) (eN (decide (bh < bl)) 0 bh) (eN (decide (bh < bl)) ah (max ah bh)))) = true := by
  rw [some_row n3 n4, decide_eq_false (show ¬ ah < al by omega)]
  simp only [eN_no]
  exact has_yes (by omega) (by omega)
theorem sign_in {al ah x : Int} (i0 : InU al) (i1 : InU ah) (n1 : al ≤ x) (n2 : x ≤ ah) : (decide (eN (decide (ah < al)) 1 (eN (decide (wrap64 ah < wrap64 al)) (-9223372036854775808) (wrap64 al)) ≤ wrap64 x) && decide (wrap64 x ≤ eN (decide (ah < al)) 0 (eN (decide (wrap64 ah < wrap64 al)) (9223372036854775807) (wrap64 ah)))) = true := by
  rw [some_row n1 n2, eN_no, eN_no]
  unfold InU at *
  simp only [wrap64]
  cases z : decide ((ah + 9223372036854775808) % 18446744073709551616 - 9223372036854775808 < (al + 9223372036854775808) % 18446744073709551616 - 9223372036854775808)
  · have z := of_decide_eq_false z
    rw [eN_no, eN_no]
    exact has_yes (by omega) (by omega)
  · show (decide (-9223372036854775808 ≤ _) && decide (_ ≤ 9223372036854775807)) = true
    exact has_yes (by omega) (by omega)
theorem bare_in {al ah x : Int} (i0 : InS al) (i1 : InS ah) (n1 : al ≤ x) (n2 : x ≤ ah) : (decide (eN (decide (ah < al)) 1 (eN (decide (IntKind.u64.wrap ah < IntKind.u64.wrap al)) (0) (IntKind.u64.wrap al)) ≤ IntKind.u64.wrap x) && decide (IntKind.u64.wrap x ≤ eN (decide (ah < al)) 0 (eN (decide (IntKind.u64.wrap ah < IntKind.u64.wrap al)) (18446744073709551615) (IntKind.u64.wrap ah)))) = true := by
  rw [some_row n1 n2, eN_no, eN_no]
  unfold InS at *
  simp only [IntKind.wrap_u64]
  cases z : decide (ah % 18446744073709551616 < al % 18446744073709551616)
  · have z := of_decide_eq_false z
    rw [eN_no, eN_no]
    exact has_yes (by omega) (by omega)
  · show (decide (0 ≤ _) && decide (_ ≤ 18446744073709551615)) = true
    exact has_yes (by omega) (by omega)
end Go.Proofs.YtekenpgagfmgkaaGreat
