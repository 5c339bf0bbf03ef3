/- Towards the statement InsnBack: what was written is read, what was read is written as it was. -/
import Derived.Test.YthbmgfnifolcbaaIN
namespace Go.Proofs.Ythbmgfnifolcbaa
open Go.ChangeShapes Go.WideShapes Go.ChangeAt Go.RowKit
open Go.PlainAid (bt get_bt bt_nonneg bt_le bt_end)
set_option linter.unusedVariables false
set_option linter.unusedSimpArgs false

/-- Eight bytes, as numbers. -/
theorem encB_list (o d s f i : Int) : encB o d s f i = strOfNums [o % 256, (d % 16 + 16 * (s % 16)) % 256, f % 18446744073709551616 % 256, f % 18446744073709551616 / 256 % 256, i % 18446744073709551616 % 256, i % 18446744073709551616 / 256 % 256, i % 18446744073709551616 / 65536 % 256, i % 18446744073709551616 / 16777216 % 256] := by
  have e1 : ∀ x, ofB x 1 = strOfNums [x % 256] := fun x => by rw [ofB, if_pos (by decide)]; rfl
  have e2 : ∀ x, ofB x 2 = strOfNums [x % 256, x / 256 % 256] := fun x => by rw [ofB, if_pos (by decide)]; rfl
  have e4 : ∀ x, ofB x 4 = strOfNums [x % 256, x / 256 % 256, x / 65536 % 256, x / 16777216 % 256] := fun x => by rw [ofB, if_pos (by decide)]; exact congrArg strOfNums (digs4 x)
  rw [encB, e1, e1, e2, e4, str_app, str_app, str_app]; rfl
theorem size_enc (o d s f i : Int) : (encB o d s f i).size = 8 := by rw [encB_list, strOfNums_size]; rfl
theorem num_2 (s : ByteArray) : numAt s 2 2 = bt s 2 + 256 * bt s 3 := by simp [numAt]
theorem num_4 (s : ByteArray) : numAt s 4 4 = bt s 4 + 256 * (bt s 5 + 256 * (bt s 6 + 256 * bt s 7)) := by simp [numAt]
/-- What was written is read. -/
theorem dec_enc (o d s f i : Int) (h0 : 0 ≤ o) (h1 : o ≤ 255) (d0 : 0 ≤ d) (d1 : d ≤ 15) (s0 : 0 ≤ s) (s1 : s ≤ 15) (f0 : -32768 ≤ f) (f1 : f ≤ 32767) (i0 : -2147483648 ≤ i) (i1 : i ≤ 2147483647) :
    bt (encB o d s f i) 0 = o ∧ bt (encB o d s f i) 1 % 16 = d ∧ bt (encB o d s f i) 1 / 16 = s ∧ offV (encB o d s f i) = f ∧ immV (encB o d s f i) = i := by
  have k : ∀ n (hn : n < 8), bt (encB o d s f i) n = [o % 256, (d % 16 + 16 * (s % 16)) % 256, f % 18446744073709551616 % 256, f % 18446744073709551616 / 256 % 256, i % 18446744073709551616 % 256, i % 18446744073709551616 / 256 % 256, i % 18446744073709551616 / 65536 % 256, i % 18446744073709551616 / 16777216 % 256][n] := by
    intro n hn
    rw [encB_list]
    refine bt_str [o % 256, (d % 16 + 16 * (s % 16)) % 256, f % 18446744073709551616 % 256, f % 18446744073709551616 / 256 % 256, i % 18446744073709551616 % 256, i % 18446744073709551616 / 256 % 256, i % 18446744073709551616 / 65536 % 256, i % 18446744073709551616 / 16777216 % 256] n hn ?_
    rcases (show n = 0 ∨ n = 1 ∨ n = 2 ∨ n = 3 ∨ n = 4 ∨ n = 5 ∨ n = 6 ∨ n = 7 by omega) with rfl | rfl | rfl | rfl | rfl | rfl | rfl | rfl
    all_goals (simp only [List.getElem_cons_zero, List.getElem_cons_succ]; omega)
  have k0 := k 0 (by omega); have k1 := k 1 (by omega); have k2 := k 2 (by omega); have k3 := k 3 (by omega)
  have k4 := k 4 (by omega); have k5 := k 5 (by omega); have k6 := k 6 (by omega); have k7 := k 7 (by omega)
  simp only [List.getElem_cons_zero, List.getElem_cons_succ] at k0 k1 k2 k3 k4 k5 k6 k7
  refine ⟨by omega, by omega, by omega, ?_, ?_⟩
  · rw [offV, signV2, num_2, k2, k3]; omega
  · rw [immV, signV4, num_4, k4, k5, k6, k7]; omega
/-- What was read is written as it was. -/
theorem enc_dec (t : ByteArray) (h : t.size = 8) : encB (bt t 0) (bt t 1 % 16) (bt t 1 / 16) (offV t) (immV t) = t := by
  have b : ∀ k, 0 ≤ bt t k ∧ bt t k ≤ 255 := fun k => ⟨bt_nonneg t k, bt_le t k⟩
  have b0 := b 0; have b1 := b 1; have b2 := b 2; have b3 := b 3; have b4 := b 4; have b5 := b 5; have b6 := b 6; have b7 := b 7
  have e : encB (bt t 0) (bt t 1 % 16) (bt t 1 / 16) (offV t) (immV t) = strOfNums [bt t 0, bt t 1, bt t 2, bt t 3, bt t 4, bt t 5, bt t 6, bt t 7] := by
    rw [encB_list]
    congr 1
    rw [offV, signV2, num_2, immV, signV4, num_4]
    simp only [List.cons.injEq, and_true]
    refine ⟨?_, ?_, ?_, ?_, ?_, ?_, ?_, ?_⟩ <;> omega
  rw [e]
  apply ba_ext
  apply List.ext_getElem
  · rw [← Lib.size_eq, ← Lib.size_eq, strOfNums_size, h]; rfl
  · intro n h1 h2
    have hn : n < 8 := by rw [← Lib.size_eq, h] at h2; exact h2
    have q := bt_str [bt t 0, bt t 1, bt t 2, bt t 3, bt t 4, bt t 5, bt t 6, bt t 7] n hn (by
      rcases (show n = 0 ∨ n = 1 ∨ n = 2 ∨ n = 3 ∨ n = 4 ∨ n = 5 ∨ n = 6 ∨ n = 7 by omega) with rfl | rfl | rfl | rfl | rfl | rfl | rfl | rfl
      all_goals (simp only [List.getElem_cons_zero, List.getElem_cons_succ]; assumption))
    have q2 : ([bt t 0, bt t 1, bt t 2, bt t 3, bt t 4, bt t 5, bt t 6, bt t 7] : List Int)[n] = bt t n := by
      rcases (show n = 0 ∨ n = 1 ∨ n = 2 ∨ n = 3 ∨ n = 4 ∨ n = 5 ∨ n = 6 ∨ n = 7 by omega) with rfl | rfl | rfl | rfl | rfl | rfl | rfl | rfl
      all_goals rfl
    rw [q2, ← bt_list _ n h1, ← bt_list t n h2] at q
    exact UInt8.toNat_inj.1 (by omega)
end Go.Proofs.Ythbmgfnifolcbaa
