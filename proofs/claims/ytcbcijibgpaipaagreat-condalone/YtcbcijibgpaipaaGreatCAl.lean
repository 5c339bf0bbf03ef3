/- Towards the statement CondAlone: of two numbers alone the contrary is not to be, and what is so keeps both as they are. -/
import Derived.Test.YtcbcijibgpaipaaGreatCZ
namespace Go.Proofs.YtcbcijibgpaipaaGreat
open Go.ChangeShapes Go.WideShapes Go.ChangeAt Go.RowKit
open Tn (iv)
set_option linter.unusedVariables false
set_option linter.unusedSimpArgs false
theorem ref_bad {p q : Bd} (h : nnB p = true ∨ nnB q = true) : refM (some (p, q)) = none := by
  have e : ∀ b, nnB b = true → nnB (syncM b) = true := fun b hb => by rw [sync_bad (by unfold badM; rw [hb]; rfl)]; exact nothing_nn
  show (if nnB (syncM p) || nnB (syncM q) then none else some (syncM p, syncM q)) = none
  rcases h with h | h <;> simp [e _ h]
theorem swap_none {t : Option (Bd × Bd)} (h : refM t = none) : refM (swapM t) = none := by
  cases t with
  | none => rfl
  | some p =>
    simp only [refM, swapM, Option.map] at h ⊢
    rw [Bool.or_comm]
    split at h
    · rename_i hh; rw [if_pos hh]
    · cases h
theorem mx_lt {a b : Int} (h : a < b) : a < max a b := by
  rw [Int.max_def]
  split <;> omega
theorem mm_lt {a b : Int} [Decidable (min a b < max a b)] (h : a ≠ b) : decide (min a b < max a b) = true := by
  refine decide_eq_true ?_
  rw [Int.max_def, Int.min_def]
  split <;> omega
theorem eN_lt {a b : Int} {f : Bool} (hf : f = true) : decide (eN f 0 a < eN f 1 b) = true := by subst hf; rfl
theorem nn_u {b : Bd} (h : b.uh < b.ul) : nnB b = true := by unfold nnB; rw [decide_eq_true h]; rfl
theorem nn_w {b : Bd} (h : b.wh < b.wl) : nnB b = true := by unfold nnB; rw [decide_eq_true h, Bool.or_true]; rfl
theorem mm_eN {a b : Int} (h : a ≠ b) : eN (decide (min a b < max a b)) 0 (min a b) < eN (decide (min a b < max a b)) 1 (max a b) := by
  rw [mm_lt h]
  show (0 : Int) < 1
  decide
theorem and_lw (x y m : BitVec 64) : x &&& m &&& (y &&& m) = x &&& (y &&& m) := by
  ext i hi
  simp only [BitVec.getElem_and]
  cases x[i] <;> cases y[i] <;> cases m[i] <;> rfl
section
variable {x y : BitVec 64} {wd so : Bool} {c g : Int}
theorem gtU_none (hg : g = 0 ∨ g = 1) (h : ¬ cutI wd y + g ≤ cutI wd x) : refM (gtU wd g (constM x) (constM y)) = none := by
  unfold gtU
  cases wd with
  | true =>
    simp only [cutI, if_true] at h
    rw [if_pos rfl]
    split
    · rfl
    · refine ref_bad (.inl ?_)
      simp only [nnB, constM, Bool.or_eq_true, decide_eq_true_eq]
      exact .inl (.inl (.inl (decide_eq_true (mx_lt (by omega)))))
  | false =>
    simp only [cutI, Bool.false_eq_true, if_false] at h
    rw [if_neg (by decide)]
    split
    · rfl
    · refine ref_bad (.inl ?_)
      simp only [nnB, constM, Bool.or_eq_true, decide_eq_true_eq]
      exact .inl (.inl (.inr (decide_eq_true (mx_lt (by omega)))))
theorem gtS_none (hg : g = 0 ∨ g = 1) (h : ¬ sgnI wd y + g ≤ sgnI wd x) : refM (gtS wd g (constM x) (constM y)) = none := by
  unfold gtS
  cases wd with
  | true =>
    simp only [sgnI, if_true] at h
    rw [if_pos rfl]
    split
    · rfl
    · refine ref_bad (.inl ?_)
      simp only [nnB, constM, Bool.or_eq_true, decide_eq_true_eq]
      exact .inl (.inr (decide_eq_true (mx_lt (by omega))))
  | false =>
    simp only [sgnI, Bool.false_eq_true, if_false] at h
    rw [if_neg (by decide)]
    split
    · rfl
    · refine ref_bad (.inl ?_)
      simp only [nnB, constM, Bool.or_eq_true, decide_eq_true_eq]
      exact .inr (decide_eq_true (mx_lt (by omega)))
theorem eq_none (h : cutI wd x ≠ cutI wd y) : refM (eqM wd (constM x) (constM y)) = none := by
  unfold eqM
  cases wd with
  | true =>
    simp only [cutI, if_true] at h
    rw [if_pos rfl]
    refine ref_bad (.inl ?_)
    unfold meetM
    split
    · rw [sync_bad]
      · exact nothing_nn
      · have e : nnB (meetP (constM x) (constM y)) = true := nn_u (mm_eN h)
        unfold badM
        rw [e]; rfl
    · exact nothing_nn
  | false =>
    simp only [cutI, Bool.false_eq_true, if_false] at h
    rw [if_neg (by decide)]
    split
    · exact ref_bad (.inl (nn_w (mm_eN h)))
    · rfl
theorem ne_none (h : cutI wd x = cutI wd y) : refM (neM wd (constM x) (constM y)) = none := by
  unfold neM
  refine ref_bad (.inl ?_)
  cases wd with
  | true =>
    simp only [cutI, if_true] at h
    simp only [outM, spL, spH, constM, if_true, nnB, Bool.or_eq_true, decide_eq_true_eq, woL, woH, h]
    simp
  | false =>
    simp only [cutI, Bool.false_eq_true, if_false] at h
    simp only [outM, spL, spH, constM, Bool.false_eq_true, if_false, if_true, nnB, Bool.or_eq_true, decide_eq_true_eq, woL, woH, h]
    simp
theorem set_none (h : ofT wd x &&& ofT wd y = 0#64) : refM (setM one1 wd (constM x) (constM y)) = none := by
  unfold setM
  have e : ofT wd (0#64) = 0#64 := by cases wd <;> rfl
  rw [if_pos]
  · rfl
  · simp only [constM]
    refine ⟨h, ?_⟩
    unfold Tn.andM
    rw [e]
    simp [h]
theorem clear_none (h : ofT wd x &&& ofT wd y ≠ 0#64) : refM (clearM wd (constM x) (constM y)) = none := by
  have e : Tn.meetX x 0#64 0#64 (~~~(ofT wd y)) = false := by
    unfold Tn.meetX
    have e1 : (x ^^^ 0#64) &&& ~~~(0#64 ||| ~~~(ofT wd y)) = x &&& ofT wd y := by simp
    rw [e1]
    refine beq_false_of_ne fun h2 => h ?_
    cases wd with
    | true => exact h2
    | false =>
      simp only [ofT, Bool.false_eq_true, if_false, lowT] at h2 ⊢
      rw [and_lw]
      exact h2
  unfold clearM knowM
  simp only [constM, e, Bool.false_eq_true, if_false]
  rfl
theorem holds_none (hc : codeM c) (h : Wd.askV wd c (cutI wd x) (cutI wd y) = false) : refM (holdsM c wd (constM x) (constM y)) = none := by
  rcases hc with rfl | rfl | rfl | rfl | rfl | rfl | rfl | rfl | rfl | rfl | rfl | rfl
  · rw [ask0] at h; cases h
  · rw [ask1] at h; rw [holds1]; exact eq_none (by simpa using h)
  · rw [ask2] at h; rw [holds2]; exact gtU_none (.inr rfl) (by have := of_decide_eq_false h; omega)
  · rw [ask3] at h; rw [holds3]; exact gtU_none (.inl rfl) (by simp at h; omega)
  · rw [ask4] at h; rw [holds4]; exact set_none (and_cut0 h)
  · rw [ask5] at h; rw [holds5]; exact ne_none (by simpa using h)
  · rw [ask6] at h; rw [holds6]; exact gtS_none (.inr rfl) (by simp [sign_cut] at h; omega)
  · rw [ask7] at h; rw [holds7]; exact gtS_none (.inl rfl) (by simp [sign_cut] at h; omega)
  · rw [ask10] at h; rw [holds10]; exact swap_none (gtU_none (.inr rfl) (by simp at h; omega))
  · rw [ask11] at h; rw [holds11]; exact swap_none (gtU_none (.inl rfl) (by simp at h; omega))
  · rw [ask12] at h; rw [holds12]; exact swap_none (gtS_none (.inr rfl) (by simp [sign_cut] at h; omega))
  · rw [ask13] at h; rw [holds13]; exact swap_none (gtS_none (.inl rfl) (by simp [sign_cut] at h; omega))
theorem tell_none (hc : codeM c) (h : Wd.asksV wd c (iv x) (iv y) = !so) : refM (tellM c wd so (constM x) (constM y)) = none := by
  rw [asks_cut wd c hc] at h
  unfold tellM
  cases so with
  | true =>
    rw [if_pos rfl]
    exact holds_none hc h
  | false =>
    rw [if_neg (by decide)]
    by_cases h0 : c = 0
    · rw [if_pos h0]; rfl
    · rw [if_neg h0]
      by_cases h4 : c = 4
      · subst h4
        rw [if_pos rfl]
        rw [ask4] at h
        exact clear_none (and_cut h)
      · rw [if_neg h4]
        refine holds_none (other_code hc h0 h4) ?_
        rw [ask_other hc h0 h4, h]
        rfl
theorem const_of_le {p : Bd} (h : Le p (constM x)) (g : Good p) : p = constM x := by
  have e : ~~~(0#64) = BitVec.allOnes 64 := by decide
  have hm := h.m
  have hv := h.v
  simp only [constM] at hm hv
  rw [e, BitVec.and_allOnes] at hm hv
  have h1 := h.ul; have h2 := h.uh; have h3 := h.sl; have h4 := h.sh; have h5 := h.wl; have h6 := h.wh; have h7 := h.vl; have h8 := h.vh
  have k1 := g.u1; have k2 := g.s1; have k3 := g.w1; have k4 := g.v1
  simp only [constM] at h1 h2 h3 h4 h5 h6 h7 h8
  obtain ⟨tv, tm, ul, uh, sl, sh, wl, wh, vl, vh⟩ := p
  simp only at *
  unfold constM
  subst hm hv
  simp only [Bd.mk.injEq, true_and]
  exact ⟨Int.le_antisymm (Int.le_trans k1 h2) h1, Int.le_antisymm h2 (Int.le_trans h1 k1), Int.le_antisymm (Int.le_trans k2 h4) h3, Int.le_antisymm h4 (Int.le_trans h3 k2), Int.le_antisymm (Int.le_trans k3 h6) h5, Int.le_antisymm h6 (Int.le_trans h5 k3), Int.le_antisymm (Int.le_trans k4 h8) h7, Int.le_antisymm h8 (Int.le_trans h7 k4)⟩
theorem tell_one (hc : codeM c) (ha : Has (constM x) x) (hb : Has (constM y) y) (ga : Good (constM x)) (gb : Good (constM y)) (h : Wd.asksV wd c (iv x) (iv y) = so) : refM (tellM c wd so (constM x) (constM y)) = some (constM x, constM y) := by
  obtain ⟨p, q, e, -, -, l1, l2, g1, g2⟩ := ref_keeps ga gb (tell_keeps hc ga gb ha hb h)
  rw [e, const_of_le l1 g1, const_of_le l2 g2]
end
end Go.Proofs.YtcbcijibgpaipaaGreat
