/- Towards the statements of package types (layer 10): the document's Encode. -/
import Derived.Test.YtmcjmdoeafhjpaaTZ
import Derived.Test.YtmcjmdoeafhjpaaMA
namespace Go.Proofs.Ytmcjmdoeafhjpaa
open Go.ChangeShapes Go.WideShapes Go.ChangeAt Go.RowKit Go.Shelf
set_option linter.unusedVariables false
set_option linter.unusedSimpArgs false
set_option maxRecDepth 20000

theorem rsmall_any (x : Int) (w : World) : Calls Try.prog 33 #[.int .i64 x] w fun e w' => e = .returned (.bool (inB x)) ∧ w' = w := by
  unfold inB
  cases d1 : decide (0 ≤ x) with
  | false =>
    go_enter Try.func33, Try.ntmps33
    go_wp2
    go_returns
    exact ⟨by simp, rfl⟩
  | true =>
    go_enter Try.func33, Try.ntmps33
    go_wp2
    go_returns
    exact ⟨by simp, rfl⟩
/-- A text of bytes. -/
def tx (l : List UInt8) : ByteArray := ⟨l.toArray⟩
theorem tx_size (l : List UInt8) : (tx l).size = l.length := by simp [tx, ByteArray.size]
theorem tx_app (a b : List UInt8) : tx a ++ tx b = tx (a ++ b) := by
  apply ByteArray.ext
  simp [tx, ByteArray.data_append]
theorem tx_of (n : ByteArray) : n = tx n.data.toList := rfl
theorem tx_nums (K : List Int) : strOfNums K = tx (K.map toU8) := by
  unfold strOfNums tx
  simp [toU8, Function.comp_def]
theorem wrap_u8 {x : Int} (h : inB x = true) : IntKind.u8.wrap x = x := by
  obtain ⟨h0, h1⟩ := inB_iff.1 h
  simp [IntKind.wrap, IntKind.signed, IntKind.bits]; omega
theorem all_take_step {α : Type} {P : α → Bool} {l : List α} {k : Nat} {x : α} (h : l[k]? = some x) : (l.take (k + 1)).all P = ((l.take k).all P && P x) := by
  rw [List.take_add_one, h, List.all_append]
  simp
theorem all_bad {α : Type} {P : α → Bool} {l : List α} {x : α} (h : x ∈ l) (hp : P x = false) : l.all P = false := by
  rw [List.all_eq_false]
  exact ⟨x, h, by rw [hp]; decide⟩
end Go.Proofs.Ytmcjmdoeafhjpaa
