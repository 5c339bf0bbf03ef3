/- Towards the statements of package tnum (layer 3): what the program reckons with whole numbers, bit by bit: which sets may be, which numbers they have. -/
import Derived.Test.YtekenpgagfmgkaaGreatTBlocks
namespace Go.Proofs.YtekenpgagfmgkaaGreat.Tn
set_option linter.unusedVariables false

theorem beq_true {p q : Bool} (h : p = true ↔ q = true) : p = q := by cases p <;> cases q <;> simp_all

theorem low_bit (n i : Nat) (hi : i < 64) : (1#64 <<< n - 1#64).getLsbD i = decide (i < n) := by
  by_cases h : n < 64
  · have e : (1#64 <<< n - 1#64).toNat = 2 ^ n - 1 := by
      have hp : 2 ^ n < 2 ^ 64 := Nat.pow_lt_pow_right (by omega) h
      have hq : 0 < 2 ^ n := Nat.two_pow_pos n
      rw [BitVec.toNat_sub, BitVec.toNat_shiftLeft, BitVec.toNat_ofNat, Nat.shiftLeft_eq]
      have h1 : 1 % 2 ^ 64 = 1 := by decide
      rw [h1, Nat.one_mul, Nat.mod_eq_of_lt hp]
      omega
    rw [BitVec.getLsbD, e, Nat.testBit_two_pow_sub_one]
  · rw [BitVec.shiftLeft_eq_zero (by omega), show 0#64 - 1#64 = BitVec.allOnes 64 from by decide, BitVec.getLsbD_allOnes]
    rw [decide_eq_true hi, decide_eq_true (by omega)]

section
variable {v m av am bv bm x : BitVec 64}
theorem has_iff (o : Tn.Ok v m) : (x &&& ~~~m == v) = true ↔ Tn.Has v m x := by
  rw [beq_iff_eq]
  constructor
  · intro h i hi hm
    have : (x &&& ~~~m).getLsbD i = v.getLsbD i := by rw [h]
    rw [BitVec.getLsbD_and, BitVec.getLsbD_not, hm] at this
    simp [hi] at this
    exact this
  · intro h
    apply BitVec.eq_of_getLsbD_eq
    intro i hi
    rw [BitVec.getLsbD_and, BitVec.getLsbD_not]
    cases hm : m.getLsbD i
    · rw [h i hi hm]; simp [hi]
    · rw [o i hi hm]; simp
theorem in_iff (o : Tn.Ok bv bm) : (am &&& ~~~bm == 0#64 && av &&& ~~~bm == bv) = true ↔ Tn.In av am bv bm := by
  rw [Bool.and_eq_true, beq_iff_eq, beq_iff_eq]
  constructor
  · rintro ⟨h1, h2⟩ i hi hm
    have e1 : (am &&& ~~~bm).getLsbD i = false := by rw [h1]; simp
    have e2 : (av &&& ~~~bm).getLsbD i = bv.getLsbD i := by rw [h2]
    rw [BitVec.getLsbD_and, BitVec.getLsbD_not, hm] at e1 e2
    simp [hi] at e1 e2
    exact ⟨e1, e2⟩
  · intro h
    constructor
    · apply BitVec.eq_of_getLsbD_eq
      intro i hi
      rw [BitVec.getLsbD_and, BitVec.getLsbD_not]
      cases hm : bm.getLsbD i
      · rw [(h i hi hm).1]; simp
      · simp
    · apply BitVec.eq_of_getLsbD_eq
      intro i hi
      rw [BitVec.getLsbD_and, BitVec.getLsbD_not]
      cases hm : bm.getLsbD i
      · rw [(h i hi hm).2]; simp [hi]
      · rw [o i hi hm]; simp
end
section
variable {v m av am bv bm x : BitVec 64}
theorem join_bit (oa : Tn.Ok av am) (ob : Tn.Ok bv bm) (i : Nat) (hi : i < 64) : Tn.bitT (av &&& ~~~(joinM av am bv bm)) (joinM av am bv bm) i = Tn.joinF (Tn.bitT av am i) (Tn.bitT bv bm i) := by
  have h1 := oa i hi
  have h2 := ob i hi
  unfold Tn.bitT joinM
  simp only [BitVec.getLsbD_and, BitVec.getLsbD_not, BitVec.getLsbD_or, BitVec.getLsbD_xor]
  cases e1 : av.getLsbD i <;> cases e2 : am.getLsbD i <;> cases e3 : bv.getLsbD i <;> cases e4 : bm.getLsbD i <;> simp_all [Tn.joinF]
theorem and_bit (oa : Tn.Ok av am) (ob : Tn.Ok bv bm) (i : Nat) (hi : i < 64) : Tn.bitT (av &&& bv) (andM av am bv bm) i = Tn.andF (Tn.bitT av am i) (Tn.bitT bv bm i) := by
  have h1 := oa i hi
  have h2 := ob i hi
  unfold Tn.bitT andM
  simp only [BitVec.getLsbD_and, BitVec.getLsbD_not, BitVec.getLsbD_or]
  cases e1 : av.getLsbD i <;> cases e2 : am.getLsbD i <;> cases e3 : bv.getLsbD i <;> cases e4 : bm.getLsbD i <;> simp_all [Tn.andF]
theorem or_bit (oa : Tn.Ok av am) (ob : Tn.Ok bv bm) (i : Nat) (hi : i < 64) : Tn.bitT (av ||| bv) (orM av am bv bm) i = Tn.orF (Tn.bitT av am i) (Tn.bitT bv bm i) := by
  have h1 := oa i hi
  have h2 := ob i hi
  unfold Tn.bitT orM
  simp only [BitVec.getLsbD_and, BitVec.getLsbD_not, BitVec.getLsbD_or]
  cases e1 : av.getLsbD i <;> cases e2 : am.getLsbD i <;> cases e3 : bv.getLsbD i <;> cases e4 : bm.getLsbD i <;> simp_all [Tn.orF]
theorem xor_bit (oa : Tn.Ok av am) (ob : Tn.Ok bv bm) (i : Nat) (hi : i < 64) : Tn.bitT ((av ^^^ bv) &&& ~~~(am ||| bm)) (am ||| bm) i = Tn.xorF (Tn.bitT av am i) (Tn.bitT bv bm i) := by
  have h1 := oa i hi
  have h2 := ob i hi
  unfold Tn.bitT
  simp only [BitVec.getLsbD_and, BitVec.getLsbD_not, BitVec.getLsbD_or, BitVec.getLsbD_xor]
  cases e1 : av.getLsbD i <;> cases e2 : am.getLsbD i <;> cases e3 : bv.getLsbD i <;> cases e4 : bm.getLsbD i <;> simp_all [Tn.xorF]
theorem and_ok (av am bv bm : BitVec 64) : Tn.Ok (av &&& bv) (andM av am bv bm) := fun i hi h => by
  unfold andM at h
  simp only [BitVec.getLsbD_and, BitVec.getLsbD_not, BitVec.getLsbD_or] at h ⊢
  cases e1 : av.getLsbD i <;> cases e3 : bv.getLsbD i <;> simp_all
theorem or_ok (av am bv bm : BitVec 64) : Tn.Ok (av ||| bv) (orM av am bv bm) := fun i hi h => by
  unfold orM at h
  simp only [BitVec.getLsbD_and, BitVec.getLsbD_not, BitVec.getLsbD_or] at h ⊢
  cases e1 : av.getLsbD i <;> cases e3 : bv.getLsbD i <;> simp_all
theorem add_ok (av am bv bm : BitVec 64) : Tn.Ok (Tn.addV av am bv bm) (Tn.addU av am bv bm) := Tn.ok_cut _ _
theorem sub_ok (av am bv bm : BitVec 64) : Tn.Ok (Tn.subV av am bv bm) (Tn.subU av am bv bm) := Tn.ok_cut _ _
theorem mul_ok (av am bv bm : BitVec 64) : Tn.Ok (Tn.mulV av am bv bm) (Tn.mulU av am bv bm) := Tn.ok_cut _ _
theorem shl_ok (o : Tn.Ok v m) (n : Nat) : Tn.Ok (v <<< n) (m <<< n) := fun i hi h => by
  rw [BitVec.getLsbD_shiftLeft] at h ⊢
  simp only [Bool.and_eq_true] at h
  rw [o (i - n) (by omega) h.2]; simp
theorem shr_ok (o : Tn.Ok v m) (n : Nat) : Tn.Ok (v >>> n) (m >>> n) := fun i hi h => by
  rw [BitVec.getLsbD_ushiftRight] at h ⊢
  by_cases hj : n + i < 64
  · exact o _ hj h
  · exact BitVec.getLsbD_of_ge _ _ (by omega)
theorem sar_get (x : BitVec 64) (n i : Nat) (hi : i < 64) : (x.sshiftRight n).getLsbD i = x.getLsbD (min (i + n) 63) := by
  rw [BitVec.getLsbD_sshiftRight]
  have h1 : ¬ 64 ≤ i := by omega
  by_cases h : n + i < 64
  · rw [if_pos h, show min (i + n) 63 = n + i by omega]; simp; omega
  · rw [if_neg h, show min (i + n) 63 = 63 by omega, BitVec.msb_eq_getLsbD_last]; simp; omega
theorem sar_ok (o : Tn.Ok v m) (n : Nat) : Tn.Ok (v.sshiftRight n) (m.sshiftRight n) := fun i hi h => by
  rw [sar_get _ _ _ hi] at h ⊢
  exact o _ (by omega) h
theorem low_ok (o : Tn.Ok v m) (c : BitVec 64) : Tn.Ok (v &&& c) (m &&& c) := fun i hi h => by
  rw [BitVec.getLsbD_and] at h ⊢
  simp only [Bool.and_eq_true] at h
  rw [o i hi h.1]; simp
end
theorem lenN_le (n i : Nat) : lenN n ≤ i ↔ n < 2 ^ i := by
  unfold lenN
  by_cases h : n = 0
  · subst h; simp; exact Nat.two_pow_pos i
  · rw [if_neg h, ← Nat.log2_lt h]; omega
end Go.Proofs.YtekenpgagfmgkaaGreat.Tn
