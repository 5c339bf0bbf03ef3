/- Towards the statement InsnBack: its walk. -/
import Derived.Test.YthbmgfnifolcbaaBK
namespace Go.Proofs.Ythbmgfnifolcbaa
open Go.ChangeShapes Go.WideShapes Go.ChangeAt Go.RowKit
open Go.PlainAid (bt get_bt bt_nonneg bt_le bt_end)
set_option linter.unusedVariables false
set_option linter.unusedSimpArgs false
set_option maxRecDepth 100000

theorem dec_back (o d s f i : Int) (h0 : 0 ≤ o) (h1 : o ≤ 255) (d0 : 0 ≤ d) (d1 : d ≤ 15) (s0 : 0 ≤ s) (s1 : s ≤ 15) (e0 : -32768 ≤ f ∧ f ≤ 32767) (e1 : -2147483648 ≤ i ∧ i ≤ 2147483647) (w : World) :
    Calls Try.prog 9 #[.string (encB o d s f i)] w fun e w' => e = .returned (.tuple #[ins o d s f i, .int .i64 0]) ∧ Below w.heap.size w w' := by
  obtain ⟨k0, k1, k2, k3, k4⟩ := dec_enc o d s f i h0 h1 d0 d1 s0 s1 e0.1 e0.2 e1.1 e1.2
  have := gr_below (decode_8 (encB o d s f i) (size_enc o d s f i) w)
  rwa [k0, k1, k2, k3, k4] at this
theorem enc_ne (o d s f i o2 d2 s2 f2 i2 : Int) (h0 : 0 ≤ o ∧ o ≤ 255) (d0 : 0 ≤ d ∧ d ≤ 15) (s0 : 0 ≤ s ∧ s ≤ 15) (e0 : -32768 ≤ f ∧ f ≤ 32767) (e1 : -2147483648 ≤ i ∧ i ≤ 2147483647) (h2 : 0 ≤ o2 ∧ o2 ≤ 255) (d2' : 0 ≤ d2 ∧ d2 ≤ 15) (s2' : 0 ≤ s2 ∧ s2 ≤ 15) (e2 : -32768 ≤ f2 ∧ f2 ≤ 32767) (e3 : -2147483648 ≤ i2 ∧ i2 ≤ 2147483647)
    (hne : ¬ (o = o2 ∧ d = d2 ∧ s = s2 ∧ f = f2 ∧ i = i2)) : ((encB o d s f i).toList == (encB o2 d2 s2 f2 i2).toList) = false := by
  rw [beq_eq_false_iff_ne]
  intro he
  rw [ByteArray.toList_eq, ByteArray.toList_eq] at he
  have he := ba_ext he
  obtain ⟨k0, k1, k2, k3, k4⟩ := dec_enc o d s f i h0.1 h0.2 d0.1 d0.2 s0.1 s0.2 e0.1 e0.2 e1.1 e1.2
  obtain ⟨l0, l1, l2, l3, l4⟩ := dec_enc o2 d2 s2 f2 i2 h2.1 h2.2 d2'.1 d2'.2 s2'.1 s2'.2 e2.1 e2.2 e3.1 e3.2
  rw [he] at k0 k1 k2 k3 k4
  exact hne ⟨k0.symm.trans l0, k1.symm.trans l1, k2.symm.trans l2, k3.symm.trans l3, k4.symm.trans l4⟩
end Go.Proofs.Ythbmgfnifolcbaa
