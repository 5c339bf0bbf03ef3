/- Towards the statements of package word (layer 1), of what of it this program has: the number that stands in a text: contract of Get, for every text, place and size. -/
import Derived.Test.YtmngficbohlnhaaOf
import Derived.Lib.BufferWrite
import Derived.Deep.WholeRow
namespace Go.Proofs.Ytmngficbohlnhaa
open Go.ChangeShapes Go.WideShapes Go.ChangeAt Go.RowKit
open Go.PlainAid (bt get_bt bt_nonneg bt_le bt_end)
set_option linter.unusedVariables false

/-- The number whose n bytes stand in s from a on, the lowest first. -/
def numAt (s : ByteArray) (a : Nat) : Nat → Int
  | 0 => 0
  | n + 1 => bt s a + 256 * numAt s (a + 1) n

theorem bt_bd (s : ByteArray) (k : Nat) : 0 ≤ bt s k ∧ bt s k ≤ 255 := ⟨bt_nonneg s k, bt_le s k⟩

theorem bt_list (s : ByteArray) (k : Nat) (h : k < s.data.toList.length) : ((s.data.toList[k]).toNat : Int) = bt s k := by
  have h' : k < s.size := by rw [Lib.size_eq]; exact h
  rw [← get_bt s k h']; rfl

theorem cells_ext (s : ByteArray) (a n : Nat) (h : a + n ≤ s.size) : Lib.byteCells (s.extract a (a + n)).data.toList = (List.range n).map fun i => Value.int .u8 (bt s (a + i)) := by
  have hl : s.data.toList.length = s.size := (Lib.size_eq s).symm
  rw [Lib.extract_data, Lib.byteCells]
  apply List.ext_getElem
  · simp; omega
  · intro i h1 h2
    simp only [List.length_map, List.length_range] at h2
    simp only [List.getElem_map, List.getElem_range, List.getElem_take, List.getElem_drop]
    rw [bt_list]

def zeros : List Value := [.int .u8 0, .int .u8 0, .int .u8 0, .int .u8 0, .int .u8 0, .int .u8 0, .int .u8 0, .int .u8 0]

def getV (s : ByteArray) (a n : Int) : Int := if errOf s.size a n = 0 then numAt s a.toNat n.toNat else 0

theorem ret_two {k k' : IntKind} {a b a' b' : Int} (h : a = b) (h' : a' = b') : Ending.returned (.tuple #[.int k a, .int k' a']) = .returned (.tuple #[.int k b, .int k' b']) := by rw [h, h']

end Go.Proofs.Ytmngficbohlnhaa
