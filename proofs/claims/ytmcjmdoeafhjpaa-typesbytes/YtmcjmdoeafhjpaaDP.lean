/- Towards TypesBytes: the document's Decode, what it reads. -/
import Derived.Test.YtmcjmdoeafhjpaaDN
namespace Go.Proofs.Ytmcjmdoeafhjpaa
open Go.ChangeShapes Go.WideShapes Go.ChangeAt Go.RowKit Go.Shelf
set_option linter.unusedVariables false
set_option linter.unusedSimpArgs false
set_option maxRecDepth 20000
/-- A field, as the document's reader has it. -/
def fldR (l : List UInt8) (bad : Bool) : Fd × List UInt8 × Bool :=
  let a := txtR l bad
  let b := numR a.2.1 a.2.2
  let c := numR b.2.1 b.2.2
  let d := numR c.2.1 c.2.2
  let e := numR d.2.1 d.2.2
  (⟨⟨a.1.toArray⟩, b.1, c.1, d.1, e.1⟩, e.2.1, e.2.2)
theorem numR_false {l : List UInt8} {bad : Bool} (h : (numR l bad).2.2 = false) : bad = false := by
  cases bad with
  | false => rfl
  | true => rw [numR_bad] at h; cases h
theorem txtR_false {l : List UInt8} {bad : Bool} (h : (txtR l bad).2.2 = false) : bad = false := by
  unfold txtR at h
  split at h
  · cases h
  · exact numR_false h
theorem fld_st (l : List UInt8) : (fldD (some l)).2 = toSt (fldR l false).2.1 (fldR l false).2.2 ∧ ((fldR l false).2.2 = false → (fldD (some l)).1 = (fldR l false).1) := by
  have a := txt_st l false
  have ea : toSt l false = some l := rfl
  rw [ea] at a
  unfold fldD fldR
  simp only
  generalize hA : txtR l false = A at *
  obtain ⟨a1, a2, a3⟩ := A
  simp only at a ⊢
  obtain ⟨u1, u2⟩ := a
  rw [u1]
  have b := num_st a2 a3
  rw [b.1]
  have c := num_st (numR a2 a3).2.1 (numR a2 a3).2.2
  rw [c.1]
  have d := num_st (numR (numR a2 a3).2.1 (numR a2 a3).2.2).2.1 (numR (numR a2 a3).2.1 (numR a2 a3).2.2).2.2
  rw [d.1]
  have e := num_st (numR (numR (numR a2 a3).2.1 (numR a2 a3).2.2).2.1 (numR (numR a2 a3).2.1 (numR a2 a3).2.2).2.2).2.1 (numR (numR (numR a2 a3).2.1 (numR a2 a3).2.2).2.1 (numR (numR a2 a3).2.1 (numR a2 a3).2.2).2.2).2.2
  rw [e.1]
  refine ⟨rfl, fun h => ?_⟩
  have h1 := numR_false h
  have h2 := numR_false h1
  have h3 := numR_false h2
  rw [b.2 (numR_false h3), c.2 h3, d.2 h2, e.2 h1, u2 trivial]
theorem none_num : numM none = (0, none) := rfl
theorem none_txt : txtD none = ([], none) := rfl
theorem none_fld : (fldD none).2 = none := rfl
theorem sev_none {α : Type} {f : St → α × St} (hf : (f none).2 = none) : ∀ n, (sevD f n none).2 = none
  | 0 => rfl
  | n + 1 => by rw [sevD, hf]; exact sev_none hf n
theorem none_ty : (tyD none).2 = none := sev_none none_fld _
/-- So many are read: xs; what is left; whether bytes were wanting. -/
def Sv {α : Type} (f : St → α × St) (n : Nat) (st : St) (i : Nat) (xs : List α) (l : List UInt8) (bad : Bool) : Prop :=
  (bad = false → sevD f n st = (xs ++ (sevD f (n - i) (some l)).1, (sevD f (n - i) (some l)).2)) ∧ (bad = true → (sevD f n st).2 = none)
theorem Sv.start {α : Type} {f : St → α × St} (hf : (f none).2 = none) (n : Nat) (l : List UInt8) (bad : Bool) : Sv f n (toSt l bad) 0 [] l bad := by
  refine ⟨fun h => ?_, fun h => ?_⟩
  · subst h; rfl
  · subst h; exact sev_none hf n
theorem Sv.step {α : Type} {f : St → α × St} (hf : (f none).2 = none) {n : Nat} {st : St} {i : Nat} {xs : List α} {l l' : List UInt8} {bad' : Bool} {x : α} (h : Sv f n st i xs l false) (hi : i < n) (h1 : (f (some l)).2 = toSt l' bad') (h2 : bad' = false → (f (some l)).1 = x) : Sv f n st (i + 1) (xs ++ [x]) l' bad' := by
  have e := h.1 rfl
  rw [show n - i = (n - (i + 1)) + 1 by omega, sevD, h1] at e
  refine ⟨fun hb => ?_, fun hb => ?_⟩
  · subst hb
    rw [h2 rfl] at e
    rw [e]
    simp [toSt]
  · subst hb
    rw [e]
    exact sev_none hf _
theorem Sv.done {α : Type} {f : St → α × St} {n : Nat} {st : St} {xs : List α} {l : List UInt8} (h : Sv f n st n xs l false) : sevD f n st = (xs, some l) := by
  rw [h.1 rfl, Nat.sub_self]
  simp [sevD]
/-- A type, by its parts. -/
theorem ty_st (l : List UInt8) (a : List UInt8 × List UInt8 × Bool) (ha : txtR l false = a) (b c : Int × List UInt8 × Bool) (hb : numR a.2.1 a.2.2 = b) (hc : numR b.2.1 b.2.2 = c) (xs : List Fd) (l' : List UInt8) (bad' : Bool) (j : Nat) (hS : Sv fldD c.1.toNat (toSt c.2.1 c.2.2) j xs l' bad') (hj : bad' = false → j = c.1.toNat) (hm : c.2.2 = true → bad' = true) :
    (tyD (some l)).2 = toSt l' bad' ∧ (bad' = false → (tyD (some l)).1 = (⟨a.1.toArray⟩, b.1, xs)) := by
  have h1 := txt_st l false
  have e1 : toSt l false = some l := rfl
  rw [e1, ha] at h1
  have h2 := num_st a.2.1 a.2.2
  rw [hb] at h2
  have h3 := num_st b.2.1 b.2.2
  rw [hc] at h3
  unfold tyD
  simp only
  rw [h1.1, h1.2 rfl, h2.1, h3.1]
  cases bad' with
  | true =>
    refine ⟨?_, fun h => by cases h⟩
    have := hS.2 rfl
    by_cases hcb : c.2.2 = true
    · rw [hcb]
      exact sev_none none_fld _
    · have hcb' : c.2.2 = false := by simpa using hcb
      have hbb : b.2.2 = false := by rw [← hc] at hcb'; exact numR_false hcb'
      rw [h3.2 hbb]
      exact this
  | false =>
    have hcb : c.2.2 = false := by
      cases e : c.2.2 with
      | false => rfl
      | true => have := hm e; cases this
    have hbb : b.2.2 = false := by rw [← hc] at hcb; exact numR_false hcb
    have hab : a.2.2 = false := by rw [← hb] at hbb; exact numR_false hbb
    have hj' := hj rfl
    subst hj'
    rw [h3.2 hbb, hS.done, h2.2 hab]
    exact ⟨rfl, fun _ => rfl⟩
end Go.Proofs.Ytmcjmdoeafhjpaa
