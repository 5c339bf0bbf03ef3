/- Towards the statements of package name (layer 9): words, how long they are together; rows of one or two texts. -/
import Derived.Test.YtkndkniimlckeaaNL
namespace Go.Proofs.Ytkndkniimlckeaa
open Go.ChangeShapes Go.WideShapes Go.ChangeAt Go.RowKit
set_option linter.unusedVariables false
set_option linter.unusedSimpArgs false
def sumW (W : List (List Nat)) : Nat := (W.map fun x => x.length + 1).sum
theorem sumW_app (V W : List (List Nat)) : sumW (V ++ W) = sumW V + sumW W := by simp [sumW]
theorem endC_sum (cur : List (Nat × List Nat)) : sumW (endC cur) ≤ (cur.flatMap (·.2)).length + 1 := by
  unfold endC
  split
  · simp [sumW]
  · simp [sumW]
theorem wordsC_sum : ∀ (C cur : List (Nat × List Nat)), (∀ c ∈ C, c.2 ≠ []) → sumW (wordsC C cur) ≤ (cur.flatMap (·.2)).length + (C.flatMap (·.2)).length + 1
  | [], cur, _ => by rw [wordsC]; have := endC_sum cur; simp at *; omega
  | c :: C, cur, h => by
    rw [wordsC]
    split
    · have := wordsC_sum C (cur ++ [c]) (fun d hd => h d (by simp [hd]))
      simp at *
      omega
    · have h1 := wordsC_sum C [] (fun d hd => h d (by simp [hd]))
      have h2 := endC_sum cur
      have h3 := List.length_pos_iff.2 (h c (by simp))
      rw [sumW_app]
      simp at *
      omega
theorem words_sum {l : List Nat} (hb : ∀ x ∈ l, x < 256) : sumW (wordsM l) ≤ l.length + 1 := by
  rw [wordsM]
  cases hc : ch l with
  | none => simp [sumW]
  | some C =>
    have hT := (ch_iff hb).1 hc
    have := wordsC_sum C [] (fun c hc => (hT.runes c hc).ne)
    simp only [List.flatMap_nil, List.length_nil, Nat.zero_add] at this
    rw [← hT.bytes] at this
    exact this
theorem join_len (W : List (List Nat)) : (W.flatMap (· ++ [32])).length = sumW W := by
  induction W with
  | nil => rfl
  | cons x W ih => rw [List.flatMap_cons, List.length_append, ih]; simp [sumW]
theorem sumW_take (W : List (List Nat)) (k : Nat) : sumW (W.take k) ≤ sumW W := by
  have := sumW_app (W.take k) (W.drop k)
  rw [List.take_append_drop] at this
  omega
theorem sumW_get {W : List (List Nat)} {k : Nat} {x : List Nat} (h : W[k]? = some x) : sumW (W.take k) + x.length + 1 ≤ sumW W := by
  have hl := List.getElem?_eq_some_iff.1 h
  have h1 : W.take (k + 1) = W.take k ++ [x] := by rw [List.take_succ_eq_append_getElem hl.1, hl.2]
  have h2 := sumW_take W (k + 1)
  rw [h1, sumW_app] at h2
  simp [sumW] at h2
  simp [sumW]
  omega
theorem sumW_count (W : List (List Nat)) : W.length ≤ sumW W := by
  induction W with
  | nil => simp [sumW]
  | cons x W ih => simp [sumW] at *; omega
theorem srow1 (W : World) (a : ByteArray) : SRow (W.alloc (.cells #[.string a] 9)) (.slice (some ⟨W.heap.size, 0, none⟩) 1 1) [a] := by
  refine .inr ⟨_, 1, rfl, by simp, fun j x hx => ?_⟩
  match j, hx with
  | 0, hx => cases hx; exact cell_of (heap_new W _) rfl
theorem srow2 (W : World) (a b : ByteArray) : SRow (W.alloc (.cells #[.string a, .string b] 9)) (.slice (some ⟨W.heap.size, 0, none⟩) 2 2) [a, b] := by
  refine .inr ⟨_, 2, rfl, by simp, fun j x hx => ?_⟩
  match j, hx with
  | 0, hx => cases hx; exact cell_of (heap_new W _) rfl
  | 1, hx => cases hx; exact cell_of (heap_new W _) rfl
theorem words_same {a : List Nat} (ha : ∀ y ∈ a, y < 256) : decide (wordsM a = [a]) = mayM a := by
  rw [Bool.eq_iff_iff, decide_eq_true_iff]
  constructor
  · intro h; exact words_each ha a (by rw [h]; simp)
  · exact words_self ha
theorem may_ne {a : List Nat} (h : mayM a = true) : a ≠ [] := by
  rintro rfl; exact absurd h (by decide)
end Go.Proofs.Ytkndkniimlckeaa
