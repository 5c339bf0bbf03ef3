/- Towards the statements of package name (layer 9): beginnings of names, and what stands behind them, as mathematics. -/
import Derived.Test.YtmcjmdoeafhjpaaNT
import Derived.Laws.BytesArg
namespace Go.Proofs.Ytmcjmdoeafhjpaa
open Go.ChangeShapes Go.WideShapes Go.ChangeAt Go.RowKit
set_option linter.unusedVariables false
set_option linter.unusedSimpArgs false
theorem mayC_good {C : List (Nat × List Nat)} (h : mayC C = true) : (1 ≤ C.length ∧ C.length ≤ 32) ∧ goodP C = true := by
  have h1 : 1 ≤ C.length ∧ C.length ≤ 32 := by
    simp only [mayC, Bool.and_eq_true, decide_eq_true_eq] at h
    exact h.1.1
  exact ⟨h1, (may_good h1) ▸ h⟩
theorem may_begin {P Q : List (Nat × List Nat)} (h : mayC (P ++ Q) = true) (hP : P ≠ []) : mayC P = true := by
  obtain ⟨h1, h2⟩ := mayC_good h
  have hl := List.length_pos_iff.2 hP
  rw [List.length_append] at h1
  rw [may_good ⟨by omega, by omega⟩]
  cases hg : goodP P with
  | true => rfl
  | false => rw [good_app hg] at h2; cases h2
theorem may_snoc {C : List (Nat × List Nat)} (h : mayC C = true) (c : Nat × List Nat) : mayC (C ++ [c]) = (decide (C.length < 32) && (letterB c.1 || digitB c.1)) := by
  obtain ⟨h1, h2⟩ := mayC_good h
  by_cases hl : C.length < 32
  · rw [may_good ⟨by simp, by simp; omega⟩, good_snoc C c h2]
    have : C.isEmpty = false := by cases C with | nil => simp at h1 | cons a t => rfl
    simp [hl, this]
  · have : ¬ (1 ≤ (C ++ [c]).length ∧ (C ++ [c]).length ≤ 32) := by simp; omega
    rw [mayC, decide_eq_false this]
    simp [hl]
theorem ch_none {l : List Nat} {C} (h : Txt l C) (q : List Nat) (hq : ∀ x ∈ q, x < 256) (hne : q ≠ []) (hok : ok q = false) : ch (l ++ q) = none := by
  induction h with
  | nil => exact ch_bad hne hok
  | cons p l r C hr hC ih =>
    have hr' := hr.app (l ++ q)
    have hb : ∀ x ∈ p ++ (l ++ q), x < 256 := fun x hx => by
      rcases List.mem_append.1 hx with hx | hx
      · have := hr.lt x; rw [List.take_length] at this; exact this hx
      · rcases List.mem_append.1 hx with hx | hx
        · exact hC.lt x hx
        · exact hq x hx
    rw [List.append_assoc, ch_ok hb hr'.ne hr'.ok, hr'.dec]
    simp only
    rw [List.drop_left, ih]; rfl
theorem bt_nums (xs : List Int) (h : ∀ x ∈ xs, 0 ≤ x ∧ x < 256) : bt (strOfNums xs) = xs.map Int.toNat := by
  simp only [bt, strOfNums, List.map_map]
  refine List.map_congr_left fun x hx => ?_
  have := h x hx
  simp [UInt8.toNat_ofNat]
  omega
end Go.Proofs.Ytmcjmdoeafhjpaa
