/- Towards the statements of package cond (layer 6): what is told loses no number of which it is so, and makes no bound wider, whatever the code. -/
import Derived.Test.YtcbcijibgpaipaaGreatCR
import Derived.Test.YtcbcijibgpaipaaGreatME
namespace Go.Proofs.YtcbcijibgpaipaaGreat
open Go.ChangeShapes Go.WideShapes Go.ChangeAt Go.RowKit
open Tn (iv)
set_option linter.unusedVariables false
set_option linter.unusedSimpArgs false

theorem holds0 (wd : Bool) (a b : Bd) : holdsM 0 wd a b = some (a, b) := by unfold holdsM; simp
theorem holds1 (wd : Bool) (a b : Bd) : holdsM 1 wd a b = eqM wd a b := by unfold holdsM; simp
theorem holds2 (wd : Bool) (a b : Bd) : holdsM 2 wd a b = gtU wd 1 a b := by unfold holdsM; simp
theorem holds3 (wd : Bool) (a b : Bd) : holdsM 3 wd a b = gtU wd 0 a b := by unfold holdsM; simp
theorem holds4 (wd : Bool) (a b : Bd) : holdsM 4 wd a b = setM one1 wd a b := by unfold holdsM; simp
theorem holds5 (wd : Bool) (a b : Bd) : holdsM 5 wd a b = neM wd a b := by unfold holdsM; simp
theorem holds6 (wd : Bool) (a b : Bd) : holdsM 6 wd a b = gtS wd 1 a b := by unfold holdsM; simp
theorem holds7 (wd : Bool) (a b : Bd) : holdsM 7 wd a b = gtS wd 0 a b := by unfold holdsM; simp
theorem holds10 (wd : Bool) (a b : Bd) : holdsM 10 wd a b = swapM (gtU wd 1 b a) := by unfold holdsM; simp
theorem holds11 (wd : Bool) (a b : Bd) : holdsM 11 wd a b = swapM (gtU wd 0 b a) := by unfold holdsM; simp
theorem holds12 (wd : Bool) (a b : Bd) : holdsM 12 wd a b = swapM (gtS wd 1 b a) := by unfold holdsM; simp
theorem holds13 (wd : Bool) (a b : Bd) : holdsM 13 wd a b = swapM (gtS wd 0 b a) := by unfold holdsM; simp
section
variable {a b : Bd} {x y : BitVec 64} {wd so : Bool} {c : Int}
theorem holds_fair (hc : codeM c) (ga : Good a) (gb : Good b) : Fair (holdsM c wd a b) a b := by
  rcases hc with rfl | rfl | rfl | rfl | rfl | rfl | rfl | rfl | rfl | rfl | rfl | rfl
  · rw [holds0]; exact same_fair ga gb
  · rw [holds1]; exact eq_fair ga gb
  · rw [holds2]; exact gtU_fair (.inr rfl) ga gb
  · rw [holds3]; exact gtU_fair (.inl rfl) ga gb
  · rw [holds4]; exact set_fair ga gb
  · rw [holds5]; exact ne_fair ga gb
  · rw [holds6]; exact gtS_fair (.inr rfl) ga gb
  · rw [holds7]; exact gtS_fair (.inl rfl) ga gb
  · rw [holds10]; exact swap_fair (gtU_fair (.inr rfl) gb ga)
  · rw [holds11]; exact swap_fair (gtU_fair (.inl rfl) gb ga)
  · rw [holds12]; exact swap_fair (gtS_fair (.inr rfl) gb ga)
  · rw [holds13]; exact swap_fair (gtS_fair (.inl rfl) gb ga)
theorem other_code (hc : codeM c) (h0 : c ≠ 0) (h4 : c ≠ 4) : codeM (Wd.otherV c) := by
  unfold codeM at *
  rcases hc with rfl | rfl | rfl | rfl | rfl | rfl | rfl | rfl | rfl | rfl | rfl | rfl <;> first | exact absurd rfl h0 | exact absurd rfl h4 | decide
theorem tell_fair (hc : codeM c) (ga : Good a) (gb : Good b) : Fair (tellM c wd so a b) a b := by
  unfold tellM
  cases so with
  | true =>
    rw [if_pos rfl]
    exact holds_fair hc ga gb
  | false =>
    rw [if_neg (by decide)]
    by_cases h0 : c = 0
    · rw [if_pos h0]
      exact none_fair
    · rw [if_neg h0]
      by_cases h4 : c = 4
      · rw [if_pos h4]
        exact clear_fair ga gb
      · rw [if_neg h4]
        exact holds_fair (other_code hc h0 h4) ga gb
theorem low_cut (wd : Bool) (x : BitVec 64) : Wd.lowV (iv x) (Wd.sz wd) = cutI wd x := by
  have h := iv_range x
  cases wd with
  | true =>
    refine (Wd.lowV8 (iv x)).trans ?_
    show iv x % 18446744073709551616 = iv x
    omega
  | false => exact Wd.lowV4 (iv x)
theorem sgn8 (z : Int) (h : 0 ≤ z ∧ z ≤ 18446744073709551615) : Wd.signV z 8 = wrap64 z := by
  rw [Wd.signV8, Int.emod_eq_of_lt h.1 (by omega)]
  unfold wrap64
  by_cases k : z < 9223372036854775808
  · rw [if_pos k]
    omega
  · rw [if_neg k]
    omega
theorem sgn4 (z : Int) : Wd.signV (z % 4294967296) 4 = sg z := by
  rw [Wd.signV4, Int.emod_emod_of_dvd z (by decide)]
  unfold sg
  by_cases k : z % 4294967296 < 2147483648
  · rw [if_pos k]
    omega
  · rw [if_neg k]
    omega
theorem sign_t (x : BitVec 64) : Wd.signV (cutI true x) (Wd.sz true) = sgnI true x := by
  have h := sgn8 (iv x) (iv_range x)
  unfold cutI sgnI Wd.sz
  simp only [if_true]
  exact h
theorem sign_f (x : BitVec 64) : Wd.signV (cutI false x) (Wd.sz false) = sgnI false x := by
  have h := sgn4 (iv x)
  unfold cutI sgnI Wd.sz
  simp only [Bool.false_eq_true, if_false]
  exact h
theorem sign_cut (wd : Bool) (x : BitVec 64) : Wd.signV (cutI wd x) (Wd.sz wd) = sgnI wd x := by
  cases wd
  · exact sign_f x
  · exact sign_t x
end
theorem ask0 (wd : Bool) (x y : Int) : Wd.askV wd 0 x y = (true) := by
  unfold Wd.askV
  repeat (first | rw [if_pos rfl] | rw [if_neg (by decide)])
theorem ask1 (wd : Bool) (x y : Int) : Wd.askV wd 1 x y = ((x == y)) := by
  unfold Wd.askV
  repeat (first | rw [if_pos rfl] | rw [if_neg (by decide)])
theorem ask2 (wd : Bool) (x y : Int) : Wd.askV wd 2 x y = (decide (y < x)) := by
  unfold Wd.askV
  repeat (first | rw [if_pos rfl] | rw [if_neg (by decide)])
theorem ask3 (wd : Bool) (x y : Int) : Wd.askV wd 3 x y = (!decide (x < y)) := by
  unfold Wd.askV
  repeat (first | rw [if_pos rfl] | rw [if_neg (by decide)])
theorem ask4 (wd : Bool) (x y : Int) : Wd.askV wd 4 x y = (bits .and .u64 x y != 0) := by
  unfold Wd.askV
  repeat (first | rw [if_pos rfl] | rw [if_neg (by decide)])
theorem ask5 (wd : Bool) (x y : Int) : Wd.askV wd 5 x y = ((x != y)) := by
  unfold Wd.askV
  repeat (first | rw [if_pos rfl] | rw [if_neg (by decide)])
theorem ask6 (wd : Bool) (x y : Int) : Wd.askV wd 6 x y = (decide (Wd.signV y (Wd.sz wd) < Wd.signV x (Wd.sz wd))) := by
  unfold Wd.askV
  repeat (first | rw [if_pos rfl] | rw [if_neg (by decide)])
theorem ask7 (wd : Bool) (x y : Int) : Wd.askV wd 7 x y = (!decide (Wd.signV x (Wd.sz wd) < Wd.signV y (Wd.sz wd))) := by
  unfold Wd.askV
  repeat (first | rw [if_pos rfl] | rw [if_neg (by decide)])
theorem ask10 (wd : Bool) (x y : Int) : Wd.askV wd 10 x y = (decide (x < y)) := by
  unfold Wd.askV
  repeat (first | rw [if_pos rfl] | rw [if_neg (by decide)])
theorem ask11 (wd : Bool) (x y : Int) : Wd.askV wd 11 x y = (!decide (y < x)) := by
  unfold Wd.askV
  repeat (first | rw [if_pos rfl] | rw [if_neg (by decide)])
theorem ask12 (wd : Bool) (x y : Int) : Wd.askV wd 12 x y = (decide (Wd.signV x (Wd.sz wd) < Wd.signV y (Wd.sz wd))) := by
  unfold Wd.askV
  repeat (first | rw [if_pos rfl] | rw [if_neg (by decide)])
theorem ask13 (wd : Bool) (x y : Int) : Wd.askV wd 13 x y = (!decide (Wd.signV y (Wd.sz wd) < Wd.signV x (Wd.sz wd))) := by
  unfold Wd.askV
  repeat (first | rw [if_pos rfl] | rw [if_neg (by decide)])
theorem asks_cut (wd : Bool) (c : Int) (hc : codeM c) (x y : BitVec 64) : Wd.asksV wd c (iv x) (iv y) = Wd.askV wd c (cutI wd x) (cutI wd y) := by
  unfold Wd.asksV
  rw [low_cut, low_cut, if_pos]
  unfold codeM at hc
  simp only [Wd.asks, decide_eq_true_eq]
  omega
theorem cut_of (wd : Bool) (x : BitVec 64) : cutI wd x = iv (ofT wd x) := by
  cases wd with
  | true => rfl
  | false => exact (low_mod x).symm
theorem and_cut {wd : Bool} {x y : BitVec 64} (h : (bits .and .u64 (cutI wd x) (cutI wd y) != 0) = true) : ofT wd x &&& ofT wd y ≠ 0#64 := by
  rw [cut_of, cut_of, Tn.iv_and] at h
  intro e
  rw [e] at h
  revert h
  decide
theorem and_cut0 {wd : Bool} {x y : BitVec 64} (h : (bits .and .u64 (cutI wd x) (cutI wd y) != 0) = false) : ofT wd x &&& ofT wd y = 0#64 := by
  rw [cut_of, cut_of, Tn.iv_and] at h
  simp only [bne_eq_false_iff_eq] at h
  exact iv_inj h
section
variable {a b : Bd} {x y : BitVec 64} {wd so : Bool} {c : Int}
theorem holds_keeps (hc : codeM c) (ga : Good a) (gb : Good b) (ka : Has a x) (kb : Has b y) (h : Wd.askV wd c (cutI wd x) (cutI wd y) = true) : Keeps (holdsM c wd a b) a b x y := by
  rcases hc with rfl | rfl | rfl | rfl | rfl | rfl | rfl | rfl | rfl | rfl | rfl | rfl
  · rw [ask0] at h; rw [holds0]; exact same_keeps ga gb ka kb
  · rw [ask1] at h; rw [holds1]; exact eq_keeps ga gb ka kb (by simpa using h)
  · rw [ask2] at h; rw [holds2]; exact gtU_keeps (.inr rfl) ga gb ka kb (by have := of_decide_eq_true h; omega)
  · rw [ask3] at h; rw [holds3]; exact gtU_keeps (.inl rfl) ga gb ka kb (by simp at h; omega)
  · rw [ask4] at h; rw [holds4]; exact set_keeps one1_ok ga gb ka kb (and_cut h)
  · rw [ask5] at h; rw [holds5]; exact ne_keeps ga gb ka kb (by simpa using h)
  · rw [ask6] at h; rw [holds6]; exact gtS_keeps (.inr rfl) ga gb ka kb (by simp [sign_cut] at h; omega)
  · rw [ask7] at h; rw [holds7]; exact gtS_keeps (.inl rfl) ga gb ka kb (by simp [sign_cut] at h; omega)
  · rw [ask10] at h; rw [holds10]; exact swap_keeps (gtU_keeps (.inr rfl) gb ga kb ka (by simp at h; omega))
  · rw [ask11] at h; rw [holds11]; exact swap_keeps (gtU_keeps (.inl rfl) gb ga kb ka (by simp at h; omega))
  · rw [ask12] at h; rw [holds12]; exact swap_keeps (gtS_keeps (.inr rfl) gb ga kb ka (by simp [sign_cut] at h; omega))
  · rw [ask13] at h; rw [holds13]; exact swap_keeps (gtS_keeps (.inl rfl) gb ga kb ka (by simp [sign_cut] at h; omega))
/-- The contrary. -/
theorem ask_other (hc : codeM c) (h0 : c ≠ 0) (h4 : c ≠ 4) (p q : Int) : Wd.askV wd (Wd.otherV c) p q = !Wd.askV wd c p q := by
  rcases hc with rfl | rfl | rfl | rfl | rfl | rfl | rfl | rfl | rfl | rfl | rfl | rfl
  · exact absurd rfl h0
  · show Wd.askV wd 5 p q = _; rw [ask5, ask1]; rfl
  · show Wd.askV wd 11 p q = _; rw [ask11, ask2]
  · show Wd.askV wd 10 p q = _; rw [ask10, ask3]; simp
  · exact absurd rfl h4
  · show Wd.askV wd 1 p q = _; rw [ask5, ask1]; exact (Bool.not_not _).symm
  · show Wd.askV wd 13 p q = _; rw [ask13, ask6]
  · show Wd.askV wd 12 p q = _; rw [ask12, ask7]; simp
  · show Wd.askV wd 3 p q = _; rw [ask10, ask3]
  · show Wd.askV wd 2 p q = _; rw [ask11, ask2]; simp
  · show Wd.askV wd 7 p q = _; rw [ask12, ask7]
  · show Wd.askV wd 6 p q = _; rw [ask13, ask6]; simp
theorem tell_keeps (hc : codeM c) (ga : Good a) (gb : Good b) (ka : Has a x) (kb : Has b y) (h : Wd.asksV wd c (iv x) (iv y) = so) : Keeps (tellM c wd so a b) a b x y := by
  rw [asks_cut wd c hc] at h
  unfold tellM
  cases so with
  | true =>
    rw [if_pos rfl]
    exact holds_keeps hc ga gb ka kb h
  | false =>
    rw [if_neg (by decide)]
    by_cases h0 : c = 0
    · subst h0
      rw [ask0] at h
      cases h
    · rw [if_neg h0]
      by_cases h4 : c = 4
      · subst h4
        rw [if_pos rfl]
        rw [ask4] at h
        exact clear_keeps ga gb ka kb (and_cut0 h)
      · rw [if_neg h4]
        refine holds_keeps (other_code hc h0 h4) ga gb ka kb ?_
        rw [ask_other hc h0 h4, h]
        rfl
theorem k_ref (hc : codeM c) (ga : Good a) (gb : Good b) (w : World) : Calls Tryz.prog 29 #[.int .u8 c, .bool wd, .bool so, .agg (bv a), .agg (bv b)] w fun e w' => e = .returned (.tuple #[.agg (bv (rx (refM (tellM c wd so a b)))), .agg (bv (ry (refM (tellM c wd so a b)))), .bool (refM (tellM c wd so a b)).isSome, .int .i64 0]) ∧ Gr w w' :=
  k_refine (tellM c wd so) c wd so a b ga gb (fun w => k_told c hc wd so w) (tell_fair hc ga gb) w
end
end Go.Proofs.YtcbcijibgpaipaaGreat
