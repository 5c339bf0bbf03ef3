/- Towards the statements of package graph (layer 17): two places that are filled; one that is drained. -/
import Derived.Test.YthgpbbpmfpfjnaaGV
namespace Go.Proofs.Ythgpbbpmfpfjnaa
open Go.ChangeShapes Go.WideShapes Go.ChangeAt Go.RowKit
set_option linter.unusedVariables false
set_option linter.unusedSimpArgs false
section
variable {p q : PKey} (hpq : p ≠ q)
def twoG (p q : PKey) (o o2 : At1) : Ys := fun r => if r = p then o else if r = q then o2 else none
theorem twoG_p (o o2 : At1) : twoG p q o o2 p = o := if_pos rfl
include hpq in
theorem twoG_q (o o2 : At1) : twoG p q o o2 q = o2 := by unfold twoG; rw [if_neg (Ne.symm hpq), if_pos rfl]
theorem twoG_up (o o2 o' : At1) : updY (twoG p q o o2) p o' = twoG p q o' o2 := by
  funext r; unfold updY twoG; split <;> rfl
include hpq in
theorem twoG_uq (o o2 o' : At1) : updY (twoG p q o o2) q o' = twoG p q o o' := by
  funext r; unfold updY twoG
  by_cases e : r = q
  · rw [if_pos e, if_pos e, if_neg (by rw [e]; exact Ne.symm hpq)]
  · rw [if_neg e, if_neg e, if_neg e]
theorem twoG_none : twoG p q none none = fun _ => none := by funext r; unfold twoG; split <;> simp
theorem twoG_there {o o2 : At1} {f : FKey} (h : There (twoG p q o o2) f) : hasO o f ∨ hasO o2 f := by
  obtain ⟨r, y, e, hy⟩ := h
  unfold twoG at e
  split at e
  · exact .inl ⟨y, e, hy⟩
  · split at e
    · exact .inr ⟨y, e, hy⟩
    · cases e
end
/-- The i-th handle by a node. -/
def fk (n : Int) (i : Nat) : FKey := (((i : Int), 1), n)
theorem fk_inj {n m : Int} {i j : Nat} (h : fk n i = fk m j) : n = m ∧ i = j := by
  simp only [fk, Prod.mk.injEq, and_true] at h
  exact ⟨h.2, by omega⟩
def ixF (i : Nat) (fr : Bool) : List Nat := if fr then (List.range i).reverse else List.range i
theorem ixF_len (i : Nat) (fr : Bool) : (ixF i fr).length = i := by unfold ixF; split <;> simp
theorem ixF_mem (i : Nat) (fr : Bool) (j : Nat) : j ∈ ixF i fr ↔ j < i := by unfold ixF; split <;> simp
theorem ixF_nd (i : Nat) (fr : Bool) : (ixF i fr).Nodup := by
  unfold ixF; split
  · exact List.pairwise_reverse.2 ((List.nodup_range (n := i)).imp fun h => Ne.symm h)
  · exact List.nodup_range
theorem ixF_succ (i : Nat) (fr : Bool) : ixF (i + 1) fr = if fr then i :: ixF i fr else ixF i fr ++ [i] := by
  unfold ixF
  cases fr <;> simp [List.range_succ]
def rowF (n : Int) (l : List Nat) : List FKey := l.map (fk n)
def keysF (l : List Nat) : List HKey := l.map fun (j : Nat) => (((j : Int), 1) : HKey)
theorem rowF_keys (n : Int) (l : List Nat) : (rowF n l).map Prod.fst = keysF l := by simp [rowF, keysF, fk]
theorem rowF_mem {n m : Int} {l : List Nat} {i : Nat} : fk m i ∈ rowF n l ↔ m = n ∧ i ∈ l := by
  unfold rowF
  rw [List.mem_map]
  constructor
  · rintro ⟨j, hj, e⟩
    obtain ⟨rfl, rfl⟩ := fk_inj e
    exact ⟨rfl, hj⟩
  · rintro ⟨rfl, hi⟩; exact ⟨i, hi, rfl⟩
theorem keysF_mem {l : List Nat} {i : Nat} : (((i : Int), 1) : HKey) ∈ keysF l ↔ i ∈ l := by
  unfold keysF
  rw [List.mem_map]
  constructor
  · rintro ⟨j, hj, e⟩
    simp only [Prod.mk.injEq, and_true] at e
    obtain rfl : j = i := by omega
    exact hj
  · intro hi; exact ⟨i, hi, rfl⟩
/-- What a place has that got those. -/
def oF (tr : Bool) (n : Int) (l : List Nat) : At1 := if l = [] then none else some (tr, rowF n l)
theorem oF_has {tr : Bool} {n m : Int} {l : List Nat} {i : Nat} : hasO (oF tr n l) (fk m i) ↔ m = n ∧ i ∈ l := by
  unfold oF hasO
  constructor
  · rintro ⟨y, e, hy⟩
    split at e
    · cases e
    · cases e; exact rowF_mem.1 hy
  · intro h
    rw [if_neg (by rintro rfl; cases h.2)]
    exact ⟨_, rfl, rowF_mem.2 h⟩
theorem oF_len (tr : Bool) (n : Int) (l : List Nat) : ((oF tr n l).map fun y => y.2.length).getD 0 = l.length := by
  unfold oF; split
  · rename_i e; rw [e]; rfl
  · simp [rowF]
theorem oF_keys (tr : Bool) (n : Int) (l : List Nat) : ((oF tr n l).map fun y => y.2.map Prod.fst).getD [] = keysF l := by
  unfold oF; split
  · rename_i e; rw [e]; rfl
  · exact rowF_keys n l
theorem push_oF {n : Int} {l : List Nat} {i : Nat} (hi : i ∉ l) (fr : Bool) : pushO (oF false n l) (fk n i) fr = (0, oF false n (if fr then i :: l else l ++ [i])) := by
  unfold pushO
  rw [if_neg (by rw [oF_has]; exact fun h => hi h.2)]
  cases l with
  | nil => cases fr <;> rfl
  | cons a l =>
    rw [show oF false n (a :: l) = some (false, rowF n (a :: l)) from if_neg (by simp)]
    simp only
    rw [if_neg (by rw [rowF_keys]; simp only [Bool.false_eq_true, false_or]; exact fun h => hi (keysF_mem.1 h))]
    cases fr <;> simp [oF, rowF]
theorem ins_oF {n : Int} {l : List Nat} {i : Nat} (hi : i ∉ l) (fr : Bool) : insO (oF true n l) (if fr then 0 else (l.length : Int)) (fk n i) = (0, oF true n (if fr then i :: l else l ++ [i])) := by
  unfold insO
  rw [if_neg (by rw [oF_has]; exact fun h => hi h.2)]
  cases l with
  | nil => cases fr <;> rfl
  | cons a l =>
    rw [show oF true n (a :: l) = some (true, rowF n (a :: l)) from if_neg (by simp)]
    simp only
    rw [if_neg (by rw [rowF_keys]; simp only [Bool.true_eq_false, false_or]; exact fun h => hi (keysF_mem.1 h))]
    have hl : (rowF n (a :: l)).length = (a :: l).length := by simp [rowF]
    rw [if_neg (by rw [hl]; cases fr <;> simp <;> omega)]
    cases fr
    · simp only [Bool.false_eq_true, if_false, Int.toNat_natCast]
      rw [List.take_of_length_le (by rw [hl]; exact Nat.le_refl _), List.drop_eq_nil_of_le (by rw [hl]; exact Nat.le_refl _)]
      simp [oF, rowF]
    · simp [oF, rowF]
section
variable {p q : PKey} (hpq : p ≠ q)
/-- A handle that comes to the one place, and to the other one. -/
theorem d_push {l m : List Nat} {i : Nat} (hi : i ∉ l) (fr : Bool) : pushY (twoG p q (oF false 8 l) (oF false 16 m)) p (fk 8 i) fr = (0, twoG p q (oF false 8 (if fr then i :: l else l ++ [i])) (oF false 16 m)) := by
  rw [push_loc (p := p), twoG_p, push_oF hi, twoG_up]
  constructor
  · intro h
    rcases twoG_there h with h | h
    · exact absurd (oF_has.1 h).2 hi
    · exact absurd (oF_has.1 h).1 (by decide)
  · intro h
    rw [twoG_p] at h
    exact absurd (oF_has.1 h).2 hi
theorem d_ins {l m : List Nat} {i : Nat} (hi : i ∉ l) (fr : Bool) : insY (twoG p q (oF true 8 l) (oF false 16 m)) p (if fr then 0 else (l.length : Int)) (fk 8 i) = (0, twoG p q (oF true 8 (if fr then i :: l else l ++ [i])) (oF false 16 m)) := by
  rw [ins_loc (p := p), twoG_p, ins_oF hi, twoG_up]
  constructor
  · intro h
    rcases twoG_there h with h | h
    · exact absurd (oF_has.1 h).2 hi
    · exact absurd (oF_has.1 h).1 (by decide)
  · intro h
    rw [twoG_p] at h
    exact absurd (oF_has.1 h).2 hi
include hpq in
theorem d_pushq {tr : Bool} {l m : List Nat} {i : Nat} (hi : i ∉ m) : pushY (twoG p q (oF tr 8 l) (oF false 16 m)) q (fk 16 i) false = (0, twoG p q (oF tr 8 l) (oF false 16 (m ++ [i]))) := by
  rw [push_loc (p := q), twoG_q hpq, push_oF hi, twoG_uq hpq]
  · rfl
  · constructor
    · intro h
      rcases twoG_there h with h | h
      · exact absurd (oF_has.1 h).1 (by decide)
      · exact absurd (oF_has.1 h).2 hi
    · intro h
      rw [twoG_q hpq] at h
      exact absurd (oF_has.1 h).2 hi
theorem d_lenp (o o2 : At1) : lenY (twoG p q o o2) p = (o.map fun y => y.2.length).getD 0 := by unfold lenY; rw [twoG_p]
include hpq in
theorem d_lenq (o o2 : At1) : lenY (twoG p q o o2) q = (o2.map fun y => y.2.length).getD 0 := by unfold lenY; rw [twoG_q hpq]
theorem d_keys (tr : Bool) (l : List Nat) (o2 : At1) : keysY (twoG p q (oF tr 8 l) o2) p = keysF l := by unfold keysY; rw [twoG_p, oF_keys]
include hpq in
theorem d_at (o : At1) {m : List Nat} {i j : Nat} (h : m[i]? = some j) : atY (twoG p q o (oF false 16 m)) q (i : Int) = some (fk 16 j) := by
  unfold atY
  rw [twoG_q hpq]
  unfold oF
  rw [if_neg (by rintro rfl; cases h)]
  simp [rowF, h]
end
end Go.Proofs.Ythgpbbpmfpfjnaa
