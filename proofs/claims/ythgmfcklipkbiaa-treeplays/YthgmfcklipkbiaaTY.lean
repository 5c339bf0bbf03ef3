/- Towards the statements of package tree (layer 16): a row of handles by number. -/
import Derived.Test.YthgmfcklipkbiaaTZ
namespace Go.Proofs.Ythgmfcklipkbiaa
open Go.ChangeShapes Go.WideShapes Go.ChangeAt Go.RowKit
set_option linter.unusedVariables false
set_option linter.unusedSimpArgs false
set_option maxRecDepth 20000
def keysN (n : Nat) : List HKey := (List.range n).map fun (i : Nat) => (((i : Int), 1) : HKey)
theorem keysN_len (n : Nat) : (keysN n).length = n := by simp [keysN]
theorem keysN_succ (n : Nat) : keysN (n + 1) = keysN n ++ [((n : Int), 1)] := by simp [keysN, List.range_succ]
theorem keysN_at {n i : Nat} (h : i < n) : (keysN n)[i]? = some ((i : Int), 1) := by simp [keysN, h]
theorem keysN_not {n : Nat} {s : Int} (h : (n : Int) ≤ s) : ((s, 1) : HKey) ∉ keysN n := by
  simp only [keysN, List.mem_map, List.mem_range, not_exists, not_and]
  intro x hx e
  cases e
  omega
theorem keysN_put (n : Nat) : (keysN n).take n ++ ((n : Int), 1) :: (keysN n).drop n = keysN (n + 1) := by
  rw [keysN_succ, List.take_of_length_le (by rw [keysN_len]; omega), List.drop_of_length_le (by rw [keysN_len]; omega)]
theorem cut_not {K : List HKey} (hn : K.Nodup) {i : Nat} {k : HKey} (hk : K[i]? = some k) : k ∉ K.take i ++ K.drop (i + 1) := by
  rw [cut_mid hn hk]
  exact fun q => (hn.mem_erase_iff.1 q).1 rfl
end Go.Proofs.Ythgmfcklipkbiaa
