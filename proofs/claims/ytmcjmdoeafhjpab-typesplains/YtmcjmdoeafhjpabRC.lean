/- Towards the statements of package types (layer 10): the document's field. -/
import Derived.Test.YtmcjmdoeafhjpabRB
namespace Go.Proofs.Ytmcjmdoeafhjpab
open Go.ChangeShapes Go.WideShapes Go.ChangeAt Go.RowKit
set_option linter.unusedVariables false
set_option linter.unusedSimpArgs false
set_option maxRecDepth 20000

def Good (ahead : List Fd) : Prop := ∀ y ∈ ahead, (0 ≤ y.a ∧ y.a ≤ 128) ∧ 0 < sizeM y.k
theorem plain_ref {s : Int} {ahead : List Fd} {a n : Int} (hn : 0 < n) (hg : Good ahead) : plainM s ahead a n = true ↔ (0 ≤ a ∧ a ≤ s ∧ n ≤ s - a ∧ ∀ y ∈ ahead, ¬ (a < y.a + sizeM y.k ∧ y.a < a + n)) := by
  unfold plainM
  split
  · rename_i h
    constructor
    · intro h'; cases h'
    · rintro ⟨h1, h2, h3, _⟩; omega
  · rename_i h
    rw [Bool.not_eq_true', List.any_eq_false]
    constructor
    · intro h'
      refine ⟨by omega, by omega, by omega, fun y hy h2 => h' y hy ?_⟩
      have := (hg y hy).2
      simp only [coversM, Bool.and_eq_true, decide_eq_true_eq]
      omega
    · rintro ⟨_, _, _, h'⟩ y hy h2
      simp only [coversM, Bool.and_eq_true, decide_eq_true_eq] at h2
      exact h' y hy (by omega)
theorem fx100 {s : Int} {ahead : List Fd} {x : Fd} (h : mayM (bt x.n) = false) : fieldX s ahead x = 100 := by rw [fieldX, if_pos h]
theorem fx104 {s : Int} {ahead : List Fd} {x : Fd} (h : mayM (bt x.n) = true) (h1 : (ahead.any fun g => g.n.toList == x.n.toList) = true) : fieldX s ahead x = 104 := by rw [fieldX, if_neg (by rw [h]; decide), if_pos h1]
theorem fx102 {s : Int} {ahead : List Fd} {x : Fd} (h : mayM (bt x.n) = true) (h1 : (ahead.any fun g => g.n.toList == x.n.toList) = false) (h2 : sizeM x.k = 0) : fieldX s ahead x = 102 := by rw [fieldX, if_neg (by rw [h]; decide), if_neg (by rw [h1]; decide), if_pos h2]
theorem fx103 {s : Int} {ahead : List Fd} {x : Fd} (h : mayM (bt x.n) = true) (h1 : (ahead.any fun g => g.n.toList == x.n.toList) = false) (h2 : sizeM x.k ≠ 0) (h3 : x.a.tmod 8 ≠ 0 ∨ plainM s ahead x.a (sizeM x.k) = false) : fieldX s ahead x = 103 := by rw [fieldX, if_neg (by rw [h]; decide), if_neg (by rw [h1]; decide), if_neg h2, if_pos h3]
theorem fxlast {s : Int} {ahead : List Fd} {x : Fd} (h : mayM (bt x.n) = true) (h1 : (ahead.any fun g => g.n.toList == x.n.toList) = false) (h2 : sizeM x.k ≠ 0) (h3 : x.a.tmod 8 = 0) (h4 : plainM s ahead x.a (sizeM x.k) = true) : fieldX s ahead x = if (x.k = 7 ∨ x.k = 6) ∧ oneM [x.k] ahead = true then 104 else 0 := by
  rw [fieldX, if_neg (by rw [h]; decide), if_neg (by rw [h1]; decide), if_neg h2, if_neg (by rw [h4]; rintro (h | h); exact h h3; cases h)]
theorem good_of {s : Int} {ahead : List Fd} {x : Fd} (hs : s ≤ 128) (h : fieldX s ahead x = 0) : (0 ≤ x.a ∧ x.a ≤ 128) ∧ 0 < sizeM x.k := by
  unfold fieldX at h
  split at h
  · omega
  split at h
  · omega
  split at h
  · omega
  rename_i hz
  split at h
  · omega
  rename_i hp
  have hb := sizeM_bd x.k
  have hpl : plainM s ahead x.a (sizeM x.k) = true := by
    cases q : plainM s ahead x.a (sizeM x.k) with
    | true => rfl
    | false => exact absurd (.inr q) hp
  unfold plainM at hpl
  split at hpl
  · cases hpl
  · rename_i h'; omega
theorem any_take {fs : List Fd} {i : Nat} (P : Fd → Bool) (h : ∀ l y, l < i → fs[l]? = some y → P y = false) : (fs.take i).any P = false := by
  rw [List.any_eq_false]
  intro y hy
  obtain ⟨l, hl⟩ := List.getElem?_of_mem hy
  rw [List.getElem?_take] at hl
  split at hl
  · rw [h l y (by assumption) hl]; decide
  · cases hl
theorem any_take' {fs : List Fd} {i l : Nat} {y : Fd} (P : Fd → Bool) (h : fs[l]? = some y) (hl : l < i) (hp : P y = true) : (fs.take i).any P = true :=
  List.any_eq_true.2 ⟨y, List.mem_of_getElem? (i := l) (by rw [List.getElem?_take, if_pos hl]; exact h), hp⟩
theorem mem_take' {fs : List Fd} {i l : Nat} {y : Fd} (h : fs[l]? = some y) (hl : l < i) : y ∈ fs.take i := List.mem_of_getElem? (i := l) (by rw [List.getElem?_take, if_pos hl]; exact h)
end Go.Proofs.Ytmcjmdoeafhjpab
