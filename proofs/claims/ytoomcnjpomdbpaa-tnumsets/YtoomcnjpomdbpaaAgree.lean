/- Towards the statements of package tnum (layer 3): what the program reckons with whole numbers is what the document says of each bit. -/
import Derived.Test.YtoomcnjpomdbpaaAsks
import Derived.Test.YtoomcnjpomdbpaaMoves
import Derived.Test.YtoomcnjpomdbpaaRng
import Derived.Test.YtoomcnjpomdbpaaAgreeM
namespace Go.Proofs.Ytoomcnjpomdbpaa
set_option linter.unusedVariables false

section
variable {v m : BitVec 64}
/-- The lowest bits, one by one. -/
theorem low_acc (o : Tn.Ok v m) (n : Nat) : Tn.accB (fun i => Tn.bitT v m i == 1) (min 64 n) = v &&& (1#64 <<< n - 1#64) ∧ Tn.accB (fun i => Tn.bitT v m i == 2) (min 64 n) = m &&& (1#64 <<< n - 1#64) := by
  constructor
  all_goals
    apply BitVec.eq_of_getLsbD_eq
    intro i hi
    rw [Tn.acc_get _ i hi, BitVec.getLsbD_and, low_bit n i hi]
    have e : decide (i < min 64 n) = decide (i < n) := by
      by_cases h : i < n
      · rw [decide_eq_true h, decide_eq_true (by omega)]
      · rw [decide_eq_false h, decide_eq_false (by omega)]
    have h1 := o i hi
    rw [e]
    unfold Tn.bitT
    cases e1 : v.getLsbD i <;> cases e2 : m.getLsbD i <;> cases decide (i < n) <;> simp_all
end
section
variable {v m : BitVec 64}
theorem shl_bit (n i : Nat) (hi : i < 64) : Tn.bitT (v <<< n) (m <<< n) i = shF 0 n v m i := by
  unfold Tn.bitT
  rw [BitVec.getLsbD_shiftLeft, BitVec.getLsbD_shiftLeft, shF, if_pos rfl]
  by_cases h : n ≤ i
  · rw [if_pos h, Tn.bitT]; simp [hi, show ¬ i < n by omega]
  · rw [if_neg h]; simp [show i < n by omega]
theorem shr_bit (n i : Nat) (hi : i < 64) : Tn.bitT (v >>> n) (m >>> n) i = shF 1 n v m i := by
  have e : shF 1 n v m i = if i + n < 64 then Tn.bitT v m (i + n) else 0 := rfl
  unfold Tn.bitT at e ⊢
  rw [BitVec.getLsbD_ushiftRight, BitVec.getLsbD_ushiftRight, e, Nat.add_comm n i]
  by_cases h : i + n < 64
  · rw [if_pos h]
  · rw [if_neg h, BitVec.getLsbD_of_ge m _ (by omega), BitVec.getLsbD_of_ge v _ (by omega)]; rfl
theorem sar_bit (n i : Nat) (hi : i < 64) : Tn.bitT (v.sshiftRight n) (m.sshiftRight n) i = shF 2 n v m i := by
  unfold Tn.bitT
  rw [sar_get _ _ _ hi, sar_get _ _ _ hi]; rfl
end
section
variable {av am bv bm : BitVec 64}
theorem meet_iff : meetX av am bv bm = true ↔ ∀ i, i < 64 → meetG (Tn.bitT av am i) (Tn.bitT bv bm i) = true := by
  have each : ∀ i, i < 64 → (((av ^^^ bv) &&& ~~~(am ||| bm)).getLsbD i = false ↔ meetG (Tn.bitT av am i) (Tn.bitT bv bm i) = true) := by
    intro i hi
    unfold Tn.bitT
    simp only [BitVec.getLsbD_and, BitVec.getLsbD_not, BitVec.getLsbD_or, BitVec.getLsbD_xor]
    cases e1 : av.getLsbD i <;> cases e2 : am.getLsbD i <;> cases e3 : bv.getLsbD i <;> cases e4 : bm.getLsbD i <;> simp [meetG, hi]
  rw [meetX, beq_iff_eq]
  constructor
  · intro h i hi
    exact (each i hi).1 (by rw [h]; simp)
  · intro h
    apply BitVec.eq_of_getLsbD_eq
    intro i hi
    rw [(each i hi).2 (h i hi)]; simp
theorem meet_bit (oa : Tn.Ok av am) (ob : Tn.Ok bv bm) (i : Nat) (hi : i < 64) (hg : meetG (Tn.bitT av am i) (Tn.bitT bv bm i) = true) : Tn.bitT ((av ||| bv) &&& ~~~(am &&& bm)) (am &&& bm) i = meetF (Tn.bitT av am i) (Tn.bitT bv bm i) := by
  have h1 := oa i hi
  have h2 := ob i hi
  unfold Tn.bitT at hg ⊢
  simp only [BitVec.getLsbD_and, BitVec.getLsbD_not, BitVec.getLsbD_or]
  cases e1 : av.getLsbD i <;> cases e2 : am.getLsbD i <;> cases e3 : bv.getLsbD i <;> cases e4 : bm.getLsbD i <;> simp_all [meetF, meetG]
end
theorem top_iff (lo hi : BitVec 64) (i : Nat) : topE lo hi i = true ↔ lenN (lo ^^^ hi).toNat ≤ i := by
  rw [lenN_le, topE, beq_iff_eq]
  have key : (lo >>> i = hi >>> i) ↔ ((lo ^^^ hi) >>> i = 0#64) := by
    rw [show (lo ^^^ hi) >>> i = (lo >>> i) ^^^ (hi >>> i) from BitVec.ushiftRight_xor_distrib .., BitVec.xor_eq_zero_iff]
  rw [key]
  constructor
  · intro h
    have e : ((lo ^^^ hi) >>> i).toNat = 0 := by rw [h]; rfl
    rw [BitVec.toNat_ushiftRight, Nat.shiftRight_eq_div_pow] at e
    rcases Nat.lt_or_ge (lo ^^^ hi).toNat (2 ^ i) with h1 | h1
    · exact h1
    · have := (Nat.le_div_iff_mul_le (Nat.two_pow_pos i)).2 (show 1 * 2 ^ i ≤ (lo ^^^ hi).toNat by omega)
      omega
  · intro h
    apply BitVec.eq_of_toNat_eq
    rw [BitVec.toNat_ushiftRight, Nat.shiftRight_eq_div_pow, Nat.div_eq_of_lt h]; rfl
theorem range_bit (lo hi : BitVec 64) (i : Nat) (h : i < 64) : Tn.bitT (lo &&& ~~~(rangeM lo hi)) (rangeM lo hi) i = rngF lo hi i := by
  have e : (rangeM lo hi).getLsbD i = !(topE lo hi i) := by
    rw [rangeM, low_bit _ _ h]
    cases ht : topE lo hi i
    · simp
      rcases Nat.lt_or_ge i (lenN (lo ^^^ hi).toNat) with h1 | h1
      · simpa using h1
      · rw [(top_iff lo hi i).2 h1] at ht; cases ht
    · simp
      simpa using (top_iff lo hi i).1 ht
  unfold Tn.bitT rngF
  rw [BitVec.getLsbD_and, BitVec.getLsbD_not, e]
  cases topE lo hi i <;> simp [h]
end Go.Proofs.Ytoomcnjpomdbpaa
