/- Towards the statements of package tnum (layer 3): how many numbers a set has: two to the number of its bits that are not known. -/
import Derived.Test.YtkfjjpdcbdbdiaaTFew
namespace Go.Proofs.Ytkfjjpdcbdbdiaa
set_option linter.unusedVariables false

theorem all_len (v m : BitVec 64) : ∀ k, (Tn.allL v m k).length = 2 ^ cntB m k
  | 0 => rfl
  | k + 1 => by
    rw [Tn.allL, cntB]
    cases m.getLsbD k
    · simpa using all_len v m k
    · have := all_len v m k
      simp [this, Nat.pow_succ]
      omega
theorem all_few (v m : BitVec 64) (h : cntB m 64 ≤ 4) : (Tn.allL v m 64).length ≤ 16 := by
  rw [all_len]
  exact Nat.pow_le_pow_right (by omega) h
theorem cnt_mono (m : BitVec 64) : ∀ k, k ≤ 64 → cntB m k ≤ cntB m 64 := by
  have step : ∀ d k, k + d = 64 → cntB m k ≤ cntB m 64 := by
    intro d
    induction d with
    | zero => intro k h; rw [show k = 64 by omega]; exact Nat.le_refl _
    | succ d ih =>
      intro k h
      have := ih (k + 1) (by omega)
      rw [cntB] at this
      omega
  exact fun k h => step (64 - k) k (by omega)
theorem pairs_len (op : BitVec 64 → BitVec 64 → BitVec 64) (l l' : List (BitVec 64)) : (Tn.pairs op l l').length = l.length * l'.length := by
  unfold Tn.pairs
  induction l with
  | nil => simp
  | cons x l ih => rw [List.flatMap_cons, List.length_append, ih, List.length_map, List.length_cons, Nat.succ_mul]; omega
end Go.Proofs.Ytkfjjpdcbdbdiaa
