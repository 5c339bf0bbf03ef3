/- Towards the statements of package word (layer 1): two numbers set in one text, apart from each other or at one place, byte by byte. -/
import Derived.Test.YteaaocinkpipaaaParts
import Derived.BigQuiet
namespace Go.Proofs.Yteaaocinkpipaaa
open Go.ChangeShapes Go.WideShapes Go.ChangeAt Go.RowKit
open Go.PlainAid (bt get_bt bt_nonneg bt_le bt_end)
set_option linter.unusedVariables false

theorem setB_get (s : ByteArray) (a k : Nat) (x : Int) (hk : isz k = true) (h : a + k ≤ s.size) (i : Nat) :
    (setB s a x k).data.toList[i]? = if a ≤ i ∧ i < a + k then (ofB x k).data.toList[i - a]? else s.data.toList[i]? := by
  have hl : s.data.toList.length = s.size := (Lib.size_eq s).symm
  have hm : min a s.data.toList.length = a := by omega
  rw [setB_list s a k x hk h, List.getElem?_append, List.getElem?_append, List.length_take, len_ofB k x hk, hm]
  by_cases c1 : i < a
  · rw [if_pos c1, if_neg (by omega), List.getElem?_take, if_pos c1]
  · rw [if_neg c1]
    by_cases c2 : i < a + k
    · rw [if_pos (by omega), if_pos ⟨by omega, c2⟩]
    · rw [if_neg (by omega), if_neg (by omega), List.getElem?_drop]
      congr 1; omega

theorem set_apart (s : ByteArray) (a b j k : Nat) (x y : Int) (hj : isz j = true) (hk : isz k = true) (ha : a + j ≤ s.size) (hb : b + k ≤ s.size) (h : a + j ≤ b ∨ b + k ≤ a) :
    setB (setB s a x j) b y k = setB (setB s b y k) a x j := by
  have z1 := size_setB s a j x hj ha
  have z2 := size_setB s b k y hk hb
  apply ba_ext
  apply List.ext_getElem?
  intro i
  rw [setB_get _ b k y hk (by omega), setB_get _ a j x hj (by omega), setB_get _ a j x hj (by omega), setB_get _ b k y hk (by omega)]
  by_cases c1 : b ≤ i ∧ i < b + k
  · rw [if_pos c1, if_neg (by omega), if_pos c1]
  · rw [if_neg c1, if_neg c1]

theorem set_again (s : ByteArray) (a k : Nat) (x y : Int) (hk : isz k = true) (ha : a + k ≤ s.size) : setB (setB s a x k) a y k = setB s a y k := by
  have z1 := size_setB s a k x hk ha
  apply ba_ext
  apply List.ext_getElem?
  intro i
  rw [setB_get _ a k y hk (by omega), setB_get _ a k x hk (by omega), setB_get _ a k y hk (by omega)]
  by_cases c1 : a ≤ i ∧ i < a + k
  · rw [if_pos c1, if_pos c1]
  · rw [if_neg c1, if_neg c1, if_neg c1]

theorem gr_drewN (w : World) (n : Nat) : Gr w (w.drewN n) := by
  have hb : Below w.heap.size w (w.drewN n) := ⟨rfl, rfl, rfl, Nat.le_refl _, fun _ _ => rfl⟩
  exact ⟨hb, hb.frame _, fun _ => rfl, Nat.le_refl _⟩
end Go.Proofs.Yteaaocinkpipaaa
