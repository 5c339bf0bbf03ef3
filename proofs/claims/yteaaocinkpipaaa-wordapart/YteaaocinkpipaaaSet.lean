/- Towards the statements of package word (layer 1): a text in which a number is set: contracts of Set, the program's and the document's, for every argument. -/
import Derived.Test.YteaaocinkpipaaaLow
import Derived.Deep.RegionWith
namespace Go.Proofs.Yteaaocinkpipaaa
open Go.ChangeShapes Go.WideShapes Go.ChangeAt Go.RowKit
open Go.PlainAid (bt get_bt bt_nonneg bt_le bt_end)
set_option linter.unusedVariables false

theorem size_ofB {x n : Int} (h : isz n = true) : (ofB x n).size = n.toNat := by
  rw [ofB, if_pos h, strOfNums_size, length_digs]

def setB (s : ByteArray) (a : Int) (x n : Int) : ByteArray := if errOf s.size a n = 0 then s.extract 0 a.toNat ++ ofB x n ++ s.extract (a.toNat + n.toNat) s.size else ByteArray.empty

theorem ret_sn {k : IntKind} {a b : ByteArray} {a' b' : Int} (h : a = b) (h' : a' = b') : Ending.returned (.tuple #[.string a, .int k a']) = .returned (.tuple #[.string b, .int k b']) := by rw [h, h']

set_option maxHeartbeats 1000000 in
theorem set_yes (s : ByteArray) (a : Nat) (x n : Int) (h0 : 0 ≤ x) (h1 : x ≤ 18446744073709551615) (hn : isz n = true) (hs : s.size ≤ maxLen) (ha : a + n.toNat ≤ s.size) (w : World) : Calls Try.prog 11 #[.string s, .int .i64 a, .int .u64 x, .int .i64 n] w fun e w' => e = .returned (.tuple #[.string (s.extract 0 a ++ ofB x n ++ s.extract (a + n.toNat) s.size), .int .i64 0]) ∧ Gr w w' := by
  have hn' := isz_true hn
  have he : errOf s.size a n = 0 := errOf_ok hn (by omega) (by omega)
  have hz := size_ofB (x := x) hn
  obtain ⟨k, rfl⟩ : ∃ k : Nat, n = k := ⟨n.toNat, by omega⟩
  simp only [Int.toNat_natCast] at *
  have hk : 1 ≤ k ∧ k ≤ 8 := by omega
  have hs1 : (s.extract 0 a).size = a := by simp [ByteArray.size_extract]; omega
  have hs2 : (s.extract (a + k) s.size).size = s.size - (a + k) := by simp [ByteArray.size_extract]
  have hi : (a : Int) + (k : Int) ≤ (s.size : Int) := by omega
  have hi0 : (0 : Int) ≤ (a : Int) + (k : Int) := by omega
  have hi1 : (a : Int) ≤ (s.size : Int) := by omega
  have hsx : ∀ W, (Instr.slice 9 (.string s) (some (.int .i64 ((a : Int) + (k : Int)))) none none).run Try.prog W = .ok (.string (s.extract (a + k) s.size)) W := fun W => by
    rw [run_slice_string_from_if W 9 s .i64 _ Try.underlying9, if_pos ⟨hi0, hi⟩]
    rfl
  unfold maxLen at hs
  have hw : IntKind.i64.wrap ((a : Int) + (k : Int)) = (a : Int) + (k : Int) := IntWalk.i64_in _ ⟨by omega, by omega⟩
  clear hn'
  go_enter Try.func11, Try.ntmps11
  go_wp2_with (first | (go_at_call 20; refine (fits_any s _ _ hs (by omega) _).mono ?_; rintro e w' ⟨rfl, rfl⟩))
  go_region_with (go_at_call 13; refine (of_any x h0 h1 _ _).mono ?_; rintro e w' ⟨rfl, hg⟩)
  all_goals
    go_wp2
    go_ret2
    exact ⟨ret_sn rfl rfl, Gr.trans ⟨by go_grown, by go_grown⟩ hg⟩

theorem set_any (s : ByteArray) (a x n : Int) (h0 : 0 ≤ x) (h1 : x ≤ 18446744073709551615) (hs : s.size ≤ maxLen) (ha : -9223372036854775808 ≤ a ∧ a ≤ 9223372036854775807) (w : World) : Calls Try.prog 11 #[.string s, .int .i64 a, .int .u64 x, .int .i64 n] w fun e w' => e = .returned (.tuple #[.string (setB s a x n), .int .i64 (errOf s.size a n)]) ∧ Gr w w' := by
  by_cases he : errOf s.size a n = 0
  · obtain ⟨g1, g2, g3⟩ := errOf_zero he
    rw [setB, if_pos he, he]
    obtain ⟨k, rfl⟩ := Int.eq_ofNat_of_zero_le g2
    have := isz_true g1
    exact set_yes s k x n h0 h1 g1 hs (by omega) w
  · have hb : (errOf s.size a n != 0) = true := by simpa using he
    have hv : Hid (setB s a x n = ByteArray.empty) := by rw [Hid, setB, if_neg he]
    clear he
    unfold maxLen at hs
    go_enter Try.func11, Try.ntmps11
    go_wp2_with (first | (go_at_call 20; refine (fits_any s _ _ hs ha _).mono ?_; rintro e w' ⟨rfl, rfl⟩))
    go_ret2
    exact ⟨ret_sn hv.out.symm rfl, Gr.refl _⟩

set_option maxHeartbeats 1000000 in
theorem rset_yes (s : ByteArray) (a : Nat) (x n : Int) (h0 : 0 ≤ x) (h1 : x ≤ 18446744073709551615) (hn : isz n = true) (hs : s.size ≤ maxLen) (ha : a + n.toNat ≤ s.size) (w : World) : Calls Try.prog 12 #[.string s, .int .i64 a, .int .u64 x, .int .i64 n] w fun e w' => e = .returned (.tuple #[.string (s.extract 0 a ++ ofB x n ++ s.extract (a + n.toNat) s.size), .int .i64 0]) ∧ Gr w w' := by
  have hn' := isz_true hn
  have he : errOf s.size a n = 0 := errOf_ok hn (by omega) (by omega)
  have hz := size_ofB (x := x) hn
  obtain ⟨k, rfl⟩ : ∃ k : Nat, n = k := ⟨n.toNat, by omega⟩
  simp only [Int.toNat_natCast] at *
  have hk : 1 ≤ k ∧ k ≤ 8 := by omega
  have hs1 : (s.extract 0 a).size = a := by simp [ByteArray.size_extract]; omega
  have hs2 : (s.extract (a + k) s.size).size = s.size - (a + k) := by simp [ByteArray.size_extract]
  have hi : (a : Int) + (k : Int) ≤ (s.size : Int) := by omega
  have hi0 : (0 : Int) ≤ (a : Int) + (k : Int) := by omega
  have hi1 : (a : Int) ≤ (s.size : Int) := by omega
  unfold maxLen at hs
  have hw : IntKind.i64.wrap ((a : Int) + (k : Int)) = (a : Int) + (k : Int) := IntWalk.i64_in _ ⟨by omega, by omega⟩
  clear hn'
  go_enter Try.func12, Try.ntmps12
  go_wp2_with (first | (go_at_call 10; refine (rget_any s _ _ hs (by omega) _).mono ?_; rintro e w' ⟨rfl, rfl⟩))
  go_region_with (go_at_call 14; refine (rof_any x h0 h1 _ _).mono ?_; rintro e w' ⟨rfl, hg⟩)
  all_goals
    go_wp2
    go_ret2
    exact ⟨ret_sn rfl rfl, Gr.trans ⟨by go_grown, by go_grown⟩ hg⟩

theorem rset_any (s : ByteArray) (a x n : Int) (h0 : 0 ≤ x) (h1 : x ≤ 18446744073709551615) (hs : s.size ≤ maxLen) (ha : -9223372036854775808 ≤ a ∧ a ≤ 9223372036854775807) (w : World) : Calls Try.prog 12 #[.string s, .int .i64 a, .int .u64 x, .int .i64 n] w fun e w' => e = .returned (.tuple #[.string (setB s a x n), .int .i64 (errOf s.size a n)]) ∧ Gr w w' := by
  by_cases he : errOf s.size a n = 0
  · obtain ⟨g1, g2, g3⟩ := errOf_zero he
    rw [setB, if_pos he, he]
    obtain ⟨k, rfl⟩ := Int.eq_ofNat_of_zero_le g2
    have := isz_true g1
    exact rset_yes s k x n h0 h1 g1 hs (by omega) w
  · have hb : (errOf s.size a n != 0) = true := by simpa using he
    have hv : Hid (setB s a x n = ByteArray.empty) := by rw [Hid, setB, if_neg he]
    clear he
    unfold maxLen at hs
    go_enter Try.func12, Try.ntmps12
    go_wp2_with (first | (go_at_call 10; refine (rget_any s _ _ hs ha _).mono ?_; rintro e w' ⟨rfl, rfl⟩))
    go_ret2
    exact ⟨ret_sn hv.out.symm rfl, Gr.refl _⟩
end Go.Proofs.Yteaaocinkpipaaa
