/- Towards the statements of package span (layer 4): rows within others stay so, whatever is done with them. -/
import Derived.Test.YtkfjjpdcbdbdiaaSM
namespace Go.Proofs.Ytkfjjpdcbdbdiaa
open Go.ChangeShapes Go.WideShapes Go.ChangeAt Go.RowKit
set_option linter.unusedVariables false
set_option maxRecDepth 20000

theorem in_yes {l h L H : Int} (h1 : L ≤ l) (h2 : l ≤ h) (h3 : h ≤ H) : (decide (h < l) || ((decide (L ≤ l) && decide (l ≤ H)) && (decide (L ≤ h) && decide (h ≤ H)))) = true := by
  rw [decide_eq_false (show ¬ h < l by omega), decide_eq_true h1, decide_eq_true (show l ≤ H by omega), decide_eq_true (show L ≤ h by omega), decide_eq_true h3]; rfl
theorem in_none {l h L H : Int} (h1 : h < l) : (decide (h < l) || ((decide (L ≤ l) && decide (l ≤ H)) && (decide (L ≤ h) && decide (h ≤ H)))) = true := by
  rw [decide_eq_true h1]; rfl
theorem eE_mono {p q p' q' : Bool} {r s r' s' : Int} (hr : p = true → q = true → 0 ≤ r ∧ r ≤ s ∧ s ≤ 18446744073709551615) (h : p' = true → q' = true → p = true ∧ q = true ∧ r' ≤ r ∧ s ≤ s') :
    (decide (eE p q s 18446744073709551615 < eE p q r 0) || ((decide (eE p' q' r' 0 ≤ eE p q r 0) && decide (eE p q r 0 ≤ eE p' q' s' 18446744073709551615)) && (decide (eE p' q' r' 0 ≤ eE p q s 18446744073709551615) && decide (eE p q s 18446744073709551615 ≤ eE p' q' s' 18446744073709551615)))) = true := by
  have key : eE p q r 0 ≤ eE p q s 18446744073709551615 ∧ 0 ≤ eE p q r 0 ∧ eE p q s 18446744073709551615 ≤ 18446744073709551615 := by
    cases p
    · rw [eE_no false q (Or.inl rfl), eE_no false q (Or.inl rfl)]; omega
    · cases q
      · rw [eE_no true false (Or.inr rfl), eE_no true false (Or.inr rfl)]; omega
      · rw [eE_yes, eE_yes]; have := hr rfl rfl; omega
  cases p'
  · rw [eE_no false q' (Or.inl rfl), eE_no false q' (Or.inl rfl)]; exact in_yes key.2.1 key.1 key.2.2
  · cases q'
    · rw [eE_no true false (Or.inr rfl), eE_no true false (Or.inr rfl)]; exact in_yes key.2.1 key.1 key.2.2
    · obtain ⟨rfl, rfl, h1, h2⟩ := h rfl rfl
      have := hr rfl rfl
      rw [eE_yes, eE_yes, eE_yes, eE_yes]; exact in_yes h1 this.2.1 h2
theorem add_mono {al ah bl bh cl ch dl dh : Int} (i0 : InU al) (i1 : InU ah) (i2 : InU bl) (i3 : InU bh) (a1 : al ≤ cl) (a2 : cl ≤ ch) (a3 : ch ≤ ah) (b1 : bl ≤ dl) (b2 : dl ≤ dh) (b3 : dh ≤ bh) : (decide (eN (decide (ch < cl) || decide (dh < dl)) 0 (eE (decide (cl + dl ≤ 18446744073709551615)) (decide (ch + dh ≤ 18446744073709551615)) (IntKind.u64.wrap (ch + dh)) (18446744073709551615)) < eN (decide (ch < cl) || decide (dh < dl)) 1 (eE (decide (cl + dl ≤ 18446744073709551615)) (decide (ch + dh ≤ 18446744073709551615)) (IntKind.u64.wrap (cl + dl)) (0))) || ((decide (eN (decide (ah < al) || decide (bh < bl)) 1 (eE (decide (al + bl ≤ 18446744073709551615)) (decide (ah + bh ≤ 18446744073709551615)) (IntKind.u64.wrap (al + bl)) (0)) ≤ eN (decide (ch < cl) || decide (dh < dl)) 1 (eE (decide (cl + dl ≤ 18446744073709551615)) (decide (ch + dh ≤ 18446744073709551615)) (IntKind.u64.wrap (cl + dl)) (0))) && decide (eN (decide (ch < cl) || decide (dh < dl)) 1 (eE (decide (cl + dl ≤ 18446744073709551615)) (decide (ch + dh ≤ 18446744073709551615)) (IntKind.u64.wrap (cl + dl)) (0)) ≤ eN (decide (ah < al) || decide (bh < bl)) 0 (eE (decide (al + bl ≤ 18446744073709551615)) (decide (ah + bh ≤ 18446744073709551615)) (IntKind.u64.wrap (ah + bh)) (18446744073709551615)))) && (decide (eN (decide (ah < al) || decide (bh < bl)) 1 (eE (decide (al + bl ≤ 18446744073709551615)) (decide (ah + bh ≤ 18446744073709551615)) (IntKind.u64.wrap (al + bl)) (0)) ≤ eN (decide (ch < cl) || decide (dh < dl)) 0 (eE (decide (cl + dl ≤ 18446744073709551615)) (decide (ch + dh ≤ 18446744073709551615)) (IntKind.u64.wrap (ch + dh)) (18446744073709551615))) && decide (eN (decide (ch < cl) || decide (dh < dl)) 0 (eE (decide (cl + dl ≤ 18446744073709551615)) (decide (ch + dh ≤ 18446744073709551615)) (IntKind.u64.wrap (ch + dh)) (18446744073709551615)) ≤ eN (decide (ah < al) || decide (bh < bl)) 0 (eE (decide (al + bl ≤ 18446744073709551615)) (decide (ah + bh ≤ 18446744073709551615)) (IntKind.u64.wrap (ah + bh)) (18446744073709551615)))))) = true := by
  rw [decide_eq_false (show ¬ ch < cl by omega), decide_eq_false (show ¬ dh < dl by omega), decide_eq_false (show ¬ ah < al by omega), decide_eq_false (show ¬ bh < bl by omega), Bool.or_self, eN_no, eN_no, eN_no, eN_no]
  unfold InU at *
  refine eE_mono (fun h k => ?_) (fun h k => ?_)
  · have h := of_decide_eq_true h
    have k := of_decide_eq_true k
    rw [wrap_inU (by unfold InU; omega), wrap_inU (by unfold InU; omega)]; omega
  · have h := of_decide_eq_true h
    have k := of_decide_eq_true k
    refine ⟨decide_eq_true (by omega), decide_eq_true (by omega), ?_⟩
    rw [wrap_inU (by unfold InU; omega), wrap_inU (by unfold InU; omega), wrap_inU (by unfold InU; omega), wrap_inU (by unfold InU; omega)]; omega
theorem sub_mono {al ah bl bh cl ch dl dh : Int} (i0 : InU al) (i1 : InU ah) (i2 : InU bl) (i3 : InU bh) (a1 : al ≤ cl) (a2 : cl ≤ ch) (a3 : ch ≤ ah) (b1 : bl ≤ dl) (b2 : dl ≤ dh) (b3 : dh ≤ bh) : (decide (eN (decide (ch < cl) || decide (dh < dl)) 0 (eE (decide (dh ≤ cl)) (decide (dl ≤ ch)) (IntKind.u64.wrap (ch - dl)) (18446744073709551615)) < eN (decide (ch < cl) || decide (dh < dl)) 1 (eE (decide (dh ≤ cl)) (decide (dl ≤ ch)) (IntKind.u64.wrap (cl - dh)) (0))) || ((decide (eN (decide (ah < al) || decide (bh < bl)) 1 (eE (decide (bh ≤ al)) (decide (bl ≤ ah)) (IntKind.u64.wrap (al - bh)) (0)) ≤ eN (decide (ch < cl) || decide (dh < dl)) 1 (eE (decide (dh ≤ cl)) (decide (dl ≤ ch)) (IntKind.u64.wrap (cl - dh)) (0))) && decide (eN (decide (ch < cl) || decide (dh < dl)) 1 (eE (decide (dh ≤ cl)) (decide (dl ≤ ch)) (IntKind.u64.wrap (cl - dh)) (0)) ≤ eN (decide (ah < al) || decide (bh < bl)) 0 (eE (decide (bh ≤ al)) (decide (bl ≤ ah)) (IntKind.u64.wrap (ah - bl)) (18446744073709551615)))) && (decide (eN (decide (ah < al) || decide (bh < bl)) 1 (eE (decide (bh ≤ al)) (decide (bl ≤ ah)) (IntKind.u64.wrap (al - bh)) (0)) ≤ eN (decide (ch < cl) || decide (dh < dl)) 0 (eE (decide (dh ≤ cl)) (decide (dl ≤ ch)) (IntKind.u64.wrap (ch - dl)) (18446744073709551615))) && decide (eN (decide (ch < cl) || decide (dh < dl)) 0 (eE (decide (dh ≤ cl)) (decide (dl ≤ ch)) (IntKind.u64.wrap (ch - dl)) (18446744073709551615)) ≤ eN (decide (ah < al) || decide (bh < bl)) 0 (eE (decide (bh ≤ al)) (decide (bl ≤ ah)) (IntKind.u64.wrap (ah - bl)) (18446744073709551615)))))) = true := by
  rw [decide_eq_false (show ¬ ch < cl by omega), decide_eq_false (show ¬ dh < dl by omega), decide_eq_false (show ¬ ah < al by omega), decide_eq_false (show ¬ bh < bl by omega), Bool.or_self, eN_no, eN_no, eN_no, eN_no]
  unfold InU at *
  refine eE_mono (fun h k => ?_) (fun h k => ?_)
  · have h := of_decide_eq_true h
    have k := of_decide_eq_true k
    rw [wrap_inU (by unfold InU; omega), wrap_inU (by unfold InU; omega)]; omega
  · have h := of_decide_eq_true h
    have k := of_decide_eq_true k
    refine ⟨decide_eq_true (by omega), decide_eq_true (by omega), ?_⟩
    rw [wrap_inU (by unfold InU; omega), wrap_inU (by unfold InU; omega), wrap_inU (by unfold InU; omega), wrap_inU (by unfold InU; omega)]; omega
theorem mul_mono {al ah bl bh cl ch dl dh : Int} (i0 : InU al) (i1 : InU ah) (i2 : InU bl) (i3 : InU bh) (a1 : al ≤ cl) (a2 : cl ≤ ch) (a3 : ch ≤ ah) (b1 : bl ≤ dl) (b2 : dl ≤ dh) (b3 : dh ≤ bh) : (decide (eN (decide (ch < cl) || decide (dh < dl)) 0 (eE (decide (cl * dl ≤ 18446744073709551615)) (decide (ch * dh ≤ 18446744073709551615)) (IntKind.u64.wrap (ch * dh)) (18446744073709551615)) < eN (decide (ch < cl) || decide (dh < dl)) 1 (eE (decide (cl * dl ≤ 18446744073709551615)) (decide (ch * dh ≤ 18446744073709551615)) (IntKind.u64.wrap (cl * dl)) (0))) || ((decide (eN (decide (ah < al) || decide (bh < bl)) 1 (eE (decide (al * bl ≤ 18446744073709551615)) (decide (ah * bh ≤ 18446744073709551615)) (IntKind.u64.wrap (al * bl)) (0)) ≤ eN (decide (ch < cl) || decide (dh < dl)) 1 (eE (decide (cl * dl ≤ 18446744073709551615)) (decide (ch * dh ≤ 18446744073709551615)) (IntKind.u64.wrap (cl * dl)) (0))) && decide (eN (decide (ch < cl) || decide (dh < dl)) 1 (eE (decide (cl * dl ≤ 18446744073709551615)) (decide (ch * dh ≤ 18446744073709551615)) (IntKind.u64.wrap (cl * dl)) (0)) ≤ eN (decide (ah < al) || decide (bh < bl)) 0 (eE (decide (al * bl ≤ 18446744073709551615)) (decide (ah * bh ≤ 18446744073709551615)) (IntKind.u64.wrap (ah * bh)) (18446744073709551615)))) && (decide (eN (decide (ah < al) || decide (bh < bl)) 1 (eE (decide (al * bl ≤ 18446744073709551615)) (decide (ah * bh ≤ 18446744073709551615)) (IntKind.u64.wrap (al * bl)) (0)) ≤ eN (decide (ch < cl) || decide (dh < dl)) 0 (eE (decide (cl * dl ≤ 18446744073709551615)) (decide (ch * dh ≤ 18446744073709551615)) (IntKind.u64.wrap (ch * dh)) (18446744073709551615))) && decide (eN (decide (ch < cl) || decide (dh < dl)) 0 (eE (decide (cl * dl ≤ 18446744073709551615)) (decide (ch * dh ≤ 18446744073709551615)) (IntKind.u64.wrap (ch * dh)) (18446744073709551615)) ≤ eN (decide (ah < al) || decide (bh < bl)) 0 (eE (decide (al * bl ≤ 18446744073709551615)) (decide (ah * bh ≤ 18446744073709551615)) (IntKind.u64.wrap (ah * bh)) (18446744073709551615)))))) = true := by
  rw [decide_eq_false (show ¬ ch < cl by omega), decide_eq_false (show ¬ dh < dl by omega), decide_eq_false (show ¬ ah < al by omega), decide_eq_false (show ¬ bh < bl by omega), Bool.or_self, eN_no, eN_no, eN_no, eN_no]
  unfold InU at *
  have m0 : 0 ≤ al * bl := Int.mul_nonneg i0.1 i2.1
  have m1 : al * bl ≤ cl * dl := Int.mul_le_mul a1 b1 i2.1 (by omega)
  have m2 : cl * dl ≤ ch * dh := Int.mul_le_mul a2 b2 (by omega) (by omega)
  have m3 : ch * dh ≤ ah * bh := Int.mul_le_mul a3 b3 (by omega) (by omega)
  refine eE_mono (fun h k => ?_) (fun h k => ?_)
  · have h := of_decide_eq_true h
    have k := of_decide_eq_true k
    rw [wrap_inU (by unfold InU; omega), wrap_inU (by unfold InU; omega)]; omega
  · have h := of_decide_eq_true h
    have k := of_decide_eq_true k
    refine ⟨decide_eq_true (by omega), decide_eq_true (by omega), ?_⟩
    rw [wrap_inU (by unfold InU; omega), wrap_inU (by unfold InU; omega), wrap_inU (by unfold InU; omega), wrap_inU (by unfold InU; omega)]; omega
theorem shl_mono {al ah cl ch : Int} (i0 : InU al) (i1 : InU ah) (n : Nat) (a1 : al ≤ cl) (a2 : cl ≤ ch) (a3 : ch ≤ ah) : (decide (eN (decide (ch < cl)) 0 (eE ((decide (n ≤ 63) && decide (cl * 2 ^ n ≤ 18446744073709551615))) ((decide (n ≤ 63) && decide (ch * 2 ^ n ≤ 18446744073709551615))) (IntKind.u64.wrap (ch * 2 ^ min n 64)) (18446744073709551615)) < eN (decide (ch < cl)) 1 (eE ((decide (n ≤ 63) && decide (cl * 2 ^ n ≤ 18446744073709551615))) ((decide (n ≤ 63) && decide (ch * 2 ^ n ≤ 18446744073709551615))) (IntKind.u64.wrap (cl * 2 ^ min n 64)) (0))) || ((decide (eN (decide (ah < al)) 1 (eE ((decide (n ≤ 63) && decide (al * 2 ^ n ≤ 18446744073709551615))) ((decide (n ≤ 63) && decide (ah * 2 ^ n ≤ 18446744073709551615))) (IntKind.u64.wrap (al * 2 ^ min n 64)) (0)) ≤ eN (decide (ch < cl)) 1 (eE ((decide (n ≤ 63) && decide (cl * 2 ^ n ≤ 18446744073709551615))) ((decide (n ≤ 63) && decide (ch * 2 ^ n ≤ 18446744073709551615))) (IntKind.u64.wrap (cl * 2 ^ min n 64)) (0))) && decide (eN (decide (ch < cl)) 1 (eE ((decide (n ≤ 63) && decide (cl * 2 ^ n ≤ 18446744073709551615))) ((decide (n ≤ 63) && decide (ch * 2 ^ n ≤ 18446744073709551615))) (IntKind.u64.wrap (cl * 2 ^ min n 64)) (0)) ≤ eN (decide (ah < al)) 0 (eE ((decide (n ≤ 63) && decide (al * 2 ^ n ≤ 18446744073709551615))) ((decide (n ≤ 63) && decide (ah * 2 ^ n ≤ 18446744073709551615))) (IntKind.u64.wrap (ah * 2 ^ min n 64)) (18446744073709551615)))) && (decide (eN (decide (ah < al)) 1 (eE ((decide (n ≤ 63) && decide (al * 2 ^ n ≤ 18446744073709551615))) ((decide (n ≤ 63) && decide (ah * 2 ^ n ≤ 18446744073709551615))) (IntKind.u64.wrap (al * 2 ^ min n 64)) (0)) ≤ eN (decide (ch < cl)) 0 (eE ((decide (n ≤ 63) && decide (cl * 2 ^ n ≤ 18446744073709551615))) ((decide (n ≤ 63) && decide (ch * 2 ^ n ≤ 18446744073709551615))) (IntKind.u64.wrap (ch * 2 ^ min n 64)) (18446744073709551615))) && decide (eN (decide (ch < cl)) 0 (eE ((decide (n ≤ 63) && decide (cl * 2 ^ n ≤ 18446744073709551615))) ((decide (n ≤ 63) && decide (ch * 2 ^ n ≤ 18446744073709551615))) (IntKind.u64.wrap (ch * 2 ^ min n 64)) (18446744073709551615)) ≤ eN (decide (ah < al)) 0 (eE ((decide (n ≤ 63) && decide (al * 2 ^ n ≤ 18446744073709551615))) ((decide (n ≤ 63) && decide (ah * 2 ^ n ≤ 18446744073709551615))) (IntKind.u64.wrap (ah * 2 ^ min n 64)) (18446744073709551615)))))) = true := by
  rw [decide_eq_false (show ¬ ch < cl by omega), decide_eq_false (show ¬ ah < al by omega), eN_no, eN_no, eN_no, eN_no]
  unfold InU at *
  have hp : (0 : Int) ≤ 2 ^ n := Int.le_of_lt (Int.pow_pos (by omega))
  have m0 : 0 ≤ al * 2 ^ n := Int.mul_nonneg i0.1 hp
  have m1 : al * 2 ^ n ≤ cl * 2 ^ n := Int.mul_le_mul_of_nonneg_right a1 hp
  have m2 : cl * 2 ^ n ≤ ch * 2 ^ n := Int.mul_le_mul_of_nonneg_right a2 hp
  have m3 : ch * 2 ^ n ≤ ah * 2 ^ n := Int.mul_le_mul_of_nonneg_right a3 hp
  refine eE_mono (fun h k => ?_) (fun h k => ?_)
  · rw [Bool.and_eq_true] at h k
    have h0 := of_decide_eq_true h.1
    have h := of_decide_eq_true h.2
    have k := of_decide_eq_true k.2
    rw [Nat.min_eq_left (by omega), wrap_inU (by unfold InU; omega), wrap_inU (by unfold InU; omega)]; omega
  · rw [Bool.and_eq_true] at h k
    have h0 := of_decide_eq_true h.1
    have h := of_decide_eq_true h.2
    have k := of_decide_eq_true k.2
    refine ⟨by rw [decide_eq_true h0, decide_eq_true (by omega)]; rfl, by rw [decide_eq_true h0, decide_eq_true (by omega)]; rfl, ?_⟩
    rw [Nat.min_eq_left (by omega), wrap_inU (by unfold InU; omega), wrap_inU (by unfold InU; omega), wrap_inU (by unfold InU; omega), wrap_inU (by unfold InU; omega)]; omega
theorem shr_mono {al ah cl ch : Int} (n : Nat) (a1 : al ≤ cl) (a2 : cl ≤ ch) (a3 : ch ≤ ah) : (decide (eN (decide (ch < cl)) 0 (eE (true) (true) (ch / 2 ^ min n 64) (18446744073709551615)) < eN (decide (ch < cl)) 1 (eE (true) (true) (cl / 2 ^ min n 64) (0))) || ((decide (eN (decide (ah < al)) 1 (eE (true) (true) (al / 2 ^ min n 64) (0)) ≤ eN (decide (ch < cl)) 1 (eE (true) (true) (cl / 2 ^ min n 64) (0))) && decide (eN (decide (ch < cl)) 1 (eE (true) (true) (cl / 2 ^ min n 64) (0)) ≤ eN (decide (ah < al)) 0 (eE (true) (true) (ah / 2 ^ min n 64) (18446744073709551615)))) && (decide (eN (decide (ah < al)) 1 (eE (true) (true) (al / 2 ^ min n 64) (0)) ≤ eN (decide (ch < cl)) 0 (eE (true) (true) (ch / 2 ^ min n 64) (18446744073709551615))) && decide (eN (decide (ch < cl)) 0 (eE (true) (true) (ch / 2 ^ min n 64) (18446744073709551615)) ≤ eN (decide (ah < al)) 0 (eE (true) (true) (ah / 2 ^ min n 64) (18446744073709551615)))))) = true := by
  rw [decide_eq_false (show ¬ ch < cl by omega), decide_eq_false (show ¬ ah < al by omega), eN_no, eN_no, eN_no, eN_no, eE_yes, eE_yes, eE_yes, eE_yes]
  have hp : (0 : Int) < 2 ^ min n 64 := Int.pow_pos (by omega)
  exact in_yes (Int.ediv_le_ediv hp a1) (Int.ediv_le_ediv hp a2) (Int.ediv_le_ediv hp a3)
theorem meet_within {al ah bl bh L H : Int} (h : L ≤ max al bl) (k : min ah bh ≤ H) : (decide (eN (decide (min ah bh < max al bl)) 0 (min ah bh) < eN (decide (min ah bh < max al bl)) 1 (max al bl)) || ((decide (L ≤ eN (decide (min ah bh < max al bl)) 1 (max al bl)) && decide (eN (decide (min ah bh < max al bl)) 1 (max al bl) ≤ H)) && (decide (L ≤ eN (decide (min ah bh < max al bl)) 0 (min ah bh)) && decide (eN (decide (min ah bh < max al bl)) 0 (min ah bh) ≤ H)))) = true := by
  cases z : decide (min ah bh < max al bl)
  · have z := of_decide_eq_false z
    rw [eN_no, eN_no]
    exact in_yes h (by omega) k
  · exact in_none (show (0 : Int) < 1 by omega)
theorem within_join_l {al ah bl bh : Int} (a1 : al ≤ ah) (b1 : bl ≤ bh) : (decide (ah < al) || ((decide (eN (decide (ah < al)) (eN (decide (bh < bl)) 1 bl) (eN (decide (bh < bl)) al (min al bl)) ≤ al) && decide (al ≤ eN (decide (ah < al)) (eN (decide (bh < bl)) 0 bh) (eN (decide (bh < bl)) ah (max ah bh)))) && (decide (eN (decide (ah < al)) (eN (decide (bh < bl)) 1 bl) (eN (decide (bh < bl)) al (min al bl)) ≤ ah) && decide (ah ≤ eN (decide (ah < al)) (eN (decide (bh < bl)) 0 bh) (eN (decide (bh < bl)) ah (max ah bh)))))) = true := by
  rw [decide_eq_false (show ¬ ah < al by omega), decide_eq_false (show ¬ bh < bl by omega)]
  simp only [eN_no]
  have := @in_yes al ah (min al bl) (max ah bh) (by omega) a1 (by omega)
  rwa [decide_eq_false (show ¬ ah < al by omega)] at this
theorem within_join_r {al ah bl bh : Int} (a1 : al ≤ ah) (b1 : bl ≤ bh) : (decide (bh < bl) || ((decide (eN (decide (ah < al)) (eN (decide (bh < bl)) 1 bl) (eN (decide (bh < bl)) al (min al bl)) ≤ bl) && decide (bl ≤ eN (decide (ah < al)) (eN (decide (bh < bl)) 0 bh) (eN (decide (bh < bl)) ah (max ah bh)))) && (decide (eN (decide (ah < al)) (eN (decide (bh < bl)) 1 bl) (eN (decide (bh < bl)) al (min al bl)) ≤ bh) && decide (bh ≤ eN (decide (ah < al)) (eN (decide (bh < bl)) 0 bh) (eN (decide (bh < bl)) ah (max ah bh)))))) = true := by
  rw [decide_eq_false (show ¬ ah < al by omega), decide_eq_false (show ¬ bh < bl by omega)]
  simp only [eN_no]
  have := @in_yes bl bh (min al bl) (max ah bh) (by omega) b1 (by omega)
  rwa [decide_eq_false (show ¬ bh < bl by omega)] at this
theorem meet_mono {al ah bl bh cl ch dl dh : Int} (a1 : al ≤ cl) (a2 : cl ≤ ch) (a3 : ch ≤ ah) (b1 : bl ≤ dl) (b2 : dl ≤ dh) (b3 : dh ≤ bh) : (decide (eN (decide (min ch dh < max cl dl)) 0 (min ch dh) < eN (decide (min ch dh < max cl dl)) 1 (max cl dl)) || ((decide (eN (decide (min ah bh < max al bl)) 1 (max al bl) ≤ eN (decide (min ch dh < max cl dl)) 1 (max cl dl)) && decide (eN (decide (min ch dh < max cl dl)) 1 (max cl dl) ≤ eN (decide (min ah bh < max al bl)) 0 (min ah bh))) && (decide (eN (decide (min ah bh < max al bl)) 1 (max al bl) ≤ eN (decide (min ch dh < max cl dl)) 0 (min ch dh)) && decide (eN (decide (min ch dh < max cl dl)) 0 (min ch dh) ≤ eN (decide (min ah bh < max al bl)) 0 (min ah bh))))) = true := by
  cases z : decide (min ch dh < max cl dl)
  · have z := of_decide_eq_false z
    rw [decide_eq_false (show ¬ min ah bh < max al bl by omega), eN_no, eN_no, eN_no, eN_no]
    exact in_yes (by omega) (by omega) (by omega)
  · exact in_none (show (0 : Int) < 1 by omega)
theorem in_any (al ah bl bh : Int) (w : World) : Calls Try.prog 23 #[.agg #[.int .u64 al, .int .u64 ah], .agg #[.int .u64 bl, .int .u64 bh]] w fun e w' => e = .returned (.bool (decide (ah < al) || ((decide (bl ≤ al) && decide (al ≤ bh)) && (decide (bl ≤ ah) && decide (ah ≤ bh))))) ∧ Gr w w' := by
  cases e1 : decide (ah < al)
  · cases e2 : (decide (bl ≤ al) && decide (al ≤ bh))
    all_goals
      have HE2 : ∀ w, Calls Try.prog 22 #[.agg #[.int .u64 bl, .int .u64 bh], .int .u64 al] w fun e w' => e = .returned (.bool (decide (bl ≤ al) && decide (al ≤ bh))) ∧ w' = (w.alloc (.cells #[.int .u64 bl, .int .u64 bh] 35)).alloc (.cells #[.int .u64 bl, .int .u64 bh] 63) := Has_u bl bh al
      rw [e2] at HE2
      have HE3 : Hid _ := HE2
      clear HE2 e2
      go_enter Try.func23, Try.ntmps23
      go_wp2_with (first
        | (go_at_call 21; refine (none_u _ _ _).mono ?_; rintro e w' ⟨rfl, hw⟩; subst hw)
        | (go_at_call_of 22 (Value.int IntKind.u64 al); refine (HE3.out _).mono ?_; rintro e w' ⟨rfl, hw⟩; subst hw)
        | (go_at_call 22; refine (Has_u _ _ _ _).mono ?_; rintro e w' ⟨rfl, hw⟩; subst hw))
      go_ret
      exact ⟨by simp, by go_grown, by go_grown⟩
  · go_enter Try.func23, Try.ntmps23
    go_wp2_with (first
      | (go_at_call 21; refine (none_u _ _ _).mono ?_; rintro e w' ⟨rfl, hw⟩; subst hw))
    go_ret
    exact ⟨by simp, by go_grown, by go_grown⟩
theorem in_e (al ah bl bh : Int) (b : Bool) (h : (decide (ah < al) || ((decide (bl ≤ al) && decide (al ≤ bh)) && (decide (bl ≤ ah) && decide (ah ≤ bh)))) = b) (w : World) : Calls Try.prog 23 #[.agg #[.int .u64 al, .int .u64 ah], .agg #[.int .u64 bl, .int .u64 bh]] w fun e w' => e = .returned (.bool b) ∧ Gr w w' := by
  subst h
  exact in_any al ah bl bh w
end Go.Proofs.Ytkfjjpdcbdbdiaa
