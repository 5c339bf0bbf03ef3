/- Towards the statements of package word (layer 1), of what of it this program has: the number that stands in a text: contract of Get, for every text, place and size. -/
import Derived.Test.YtdmdmbcapjmnlabOf
import Derived.Lib.BufferWrite
import Derived.Deep.WholeRow
namespace Go.Proofs.Ytdmdmbcapjmnlab
open Go.ChangeShapes Go.WideShapes Go.ChangeAt Go.RowKit
open Go.PlainAid (bt get_bt bt_nonneg bt_le bt_end)
set_option linter.unusedVariables false
set_option maxRecDepth 20000

/-- The number whose n bytes stand in s from a on, the lowest first. -/
def numAt (s : ByteArray) (a : Nat) : Nat → Int
  | 0 => 0
  | n + 1 => bt s a + 256 * numAt s (a + 1) n

theorem bt_bd (s : ByteArray) (k : Nat) : 0 ≤ bt s k ∧ bt s k ≤ 255 := ⟨bt_nonneg s k, bt_le s k⟩

theorem bt_list (s : ByteArray) (k : Nat) (h : k < s.data.toList.length) : ((s.data.toList[k]).toNat : Int) = bt s k := by
  have h' : k < s.size := by rw [Lib.size_eq]; exact h
  rw [← get_bt s k h']; rfl

theorem cells_ext (s : ByteArray) (a n : Nat) (h : a + n ≤ s.size) : Lib.byteCells (s.extract a (a + n)).data.toList = (List.range n).map fun i => Value.int .u8 (bt s (a + i)) := by
  have hl : s.data.toList.length = s.size := (Lib.size_eq s).symm
  rw [Lib.extract_data, Lib.byteCells]
  apply List.ext_getElem
  · simp; omega
  · intro i h1 h2
    simp only [List.length_map, List.length_range] at h2
    simp only [List.getElem_map, List.getElem_range, List.getElem_take, List.getElem_drop]
    rw [bt_list]

def zeros : List Value := [.int .u8 0, .int .u8 0, .int .u8 0, .int .u8 0, .int .u8 0, .int .u8 0, .int .u8 0, .int .u8 0]

theorem copy_new (s : ByteArray) (a n : Nat) (hn : n ≤ 8) (h : a + n ≤ s.size) (W : World) :
    (Builtin.copy_ #[61, 9] 3 #[.slice (some ⟨W.heap.size, 0, none⟩) 8 8, .string (s.extract a (a + n))]).run Try.prog ((W.alloc (.cells #[.int .u8 0, .int .u8 0, .int .u8 0, .int .u8 0, .int .u8 0, .int .u8 0, .int .u8 0, .int .u8 0] 95)).drew)
      = .ok (.int .i64 n) ((W.alloc (.cells (((List.range n).map fun i => Value.int .u8 (bt s (a + i))) ++ zeros.drop n).toArray 95)).drew) := by
  have hsz : (s.extract a (a + n)).size = n := by simp [ByteArray.size_extract]; omega
  have := Lib.run_copy_row_string (P := Try.prog) ((W.alloc (.cells #[.int .u8 0, .int .u8 0, .int .u8 0, .int .u8 0, .int .u8 0, .int .u8 0, .int .u8 0, .int .u8 0] 95)).drew) 61 9 3 5 W.heap.size 0 8 8 (s.extract a (a + n)) #[.int .u8 0, .int .u8 0, .int .u8 0, .int .u8 0, .int .u8 0, .int .u8 0, .int .u8 0, .int .u8 0] 95 Try.underlying61 (by kernel_rfl) (by show (W.heap.push _)[W.heap.size]? = _; simp) (by omega) (by simp; omega)
  rw [this, hsz, cells_ext s a n h]
  congr 1
  have e := World.setRow_alloc_new W #[.int .u8 0, .int .u8 0, .int .u8 0, .int .u8 0, .int .u8 0, .int .u8 0, .int .u8 0, .int .u8 0] (((List.range n).map fun i => Value.int .u8 (bt s (a + i))) ++ zeros.drop n).toArray 95
  rw [← e]
  simp [zeros]
  rfl

def getV (s : ByteArray) (a n : Int) : Int := if errOf s.size a n = 0 then numAt s a.toNat n.toNat else 0

theorem ret_two {k k' : IntKind} {a b a' b' : Int} (h : a = b) (h' : a' = b') : Ending.returned (.tuple #[.int k a, .int k' a']) = .returned (.tuple #[.int k b, .int k' b']) := by rw [h, h']

set_option maxHeartbeats 1000000 in
theorem get_lit (s : ByteArray) (a : Nat) (n : Int) (hn : isz n = true) (hs : s.size ≤ maxLen) (ha : a + n.toNat ≤ s.size) (w : World) : Calls Try.prog 62 #[.string s, .int .i64 a, .int .i64 n] w fun e w' => e = .returned (.tuple #[.int .u64 (numAt s a n.toNat), .int .i64 0]) ∧ Gr w w' := by
  have hn' := isz_true hn
  have he : errOf s.size a n = 0 := errOf_ok hn (by omega) (by omega)
  have hcp := copy_new s a n.toNat (by omega) ha
  unfold maxLen at hs
  have e0 := bt_bd s a
  have e1 := bt_bd s (a + 1)
  have e2 := bt_bd s (a + 2)
  have e3 := bt_bd s (a + 3)
  have e4 := bt_bd s (a + 4)
  have e5 := bt_bd s (a + 5)
  have e6 := bt_bd s (a + 6)
  have e7 := bt_bd s (a + 7)
  rcases hn' with rfl | rfl | rfl | rfl
  all_goals
    simp only [Int.reduceToNat] at hcp ha ⊢
    simp [List.range, List.range.loop, zeros] at hcp
    go_enter Try.func62, Try.ntmps62
    go_wp2_with (first | (go_at_call 88; refine (fits_any s _ _ hs (by omega) _).mono ?_; rintro e w' ⟨rfl, rfl⟩))
    go_region
    go_wp2_with (first | (go_at_call 89; refine (number_any _ _ _ _ _ _ _ _ (by omega) (by omega) (by omega) (by omega) (by omega) (by omega) (by omega) (by omega) _).mono ?_; rintro e w' ⟨rfl, hg⟩))
    go_ret2
    refine ⟨ret_two ?_ rfl, Gr.trans ⟨by go_grown, by go_grown⟩ hg⟩
    simp only [numAt]
    try simp only [Nat.add_assoc, Nat.reduceAdd]
    omega

theorem get_any (s : ByteArray) (a n : Int) (hs : s.size ≤ maxLen) (ha : -9223372036854775808 ≤ a ∧ a ≤ 9223372036854775807) (w : World) : Calls Try.prog 62 #[.string s, .int .i64 a, .int .i64 n] w fun e w' => e = .returned (.tuple #[.int .u64 (getV s a n), .int .i64 (errOf s.size a n)]) ∧ Gr w w' := by
  by_cases he : errOf s.size a n = 0
  · have h1 : isz n = true := by
      cases h : isz n
      · rw [errOf, if_pos (Or.inl h)] at he; omega
      · rfl
    have h2 : 0 ≤ a := by
      by_cases h : a < 0
      · rw [errOf, if_pos (Or.inr h)] at he; omega
      · omega
    have h3 : n ≤ s.size - a := by
      by_cases h : s.size - a < n
      · rw [errOf, if_neg (by rw [h1]; simp; omega), if_pos h] at he; omega
      · omega
    rw [getV, if_pos he, he]
    obtain ⟨k, rfl⟩ := Int.eq_ofNat_of_zero_le h2
    have := isz_true h1
    exact get_lit s k n h1 hs (by omega) w
  · have hb : (errOf s.size a n != 0) = true := by simpa using he
    have hv : Hid (getV s a n = 0) := by rw [Hid, getV, if_neg he]
    clear he
    unfold maxLen at hs
    go_enter Try.func62, Try.ntmps62
    go_wp2_with (first | (go_at_call 88; refine (fits_any s _ _ hs ha _).mono ?_; rintro e w' ⟨rfl, rfl⟩))
    go_ret2
    exact ⟨ret_two hv.out.symm rfl, Gr.refl _⟩
end Go.Proofs.Ytdmdmbcapjmnlab
