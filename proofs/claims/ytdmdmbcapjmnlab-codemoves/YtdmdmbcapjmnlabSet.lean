/- Towards the statements of package word (layer 1), of what of it this program has: a text in which a number is set: contracts of Set, the program's and the document's, for every argument. -/
import Derived.Test.YtdmdmbcapjmnlabLow
import Derived.Deep.RegionWith
namespace Go.Proofs.Ytdmdmbcapjmnlab
open Go.ChangeShapes Go.WideShapes Go.ChangeAt Go.RowKit
open Go.PlainAid (bt get_bt bt_nonneg bt_le bt_end)
set_option linter.unusedVariables false
set_option maxRecDepth 20000

theorem size_ofB {x n : Int} (h : isz n = true) : (ofB x n).size = n.toNat := by
  rw [ofB, if_pos h, strOfNums_size, length_digs]

def setB (s : ByteArray) (a : Int) (x n : Int) : ByteArray := if errOf s.size a n = 0 then s.extract 0 a.toNat ++ ofB x n ++ s.extract (a.toNat + n.toNat) s.size else ByteArray.empty

theorem ret_sn {k : IntKind} {a b : ByteArray} {a' b' : Int} (h : a = b) (h' : a' = b') : Ending.returned (.tuple #[.string a, .int k a']) = .returned (.tuple #[.string b, .int k b']) := by rw [h, h']

end Go.Proofs.Ytdmdmbcapjmnlab
