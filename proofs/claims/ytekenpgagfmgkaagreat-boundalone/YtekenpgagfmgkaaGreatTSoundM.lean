/- Towards the statements of package tnum (layer 3): what TnumSound and TnumOrder ask of numbers: each answer of the program has what is reckoned with numbers of the sets; lesser sets stay lesser. -/
import Derived.Test.YtekenpgagfmgkaaGreatTCalls
namespace Go.Proofs.YtekenpgagfmgkaaGreat.Tn
set_option linter.unusedVariables false

section
variable {v m av am bv bm cv cm dv dm p q x y : BitVec 64}
theorem some_has (v m x : BitVec 64) : Tn.Has v m (v ||| x &&& m) := fun i hi hm => by
  rw [BitVec.getLsbD_or, BitVec.getLsbD_and, hm]; simp
theorem shl_has (h : Tn.Has v m p) (n : Nat) : Tn.Has (v <<< n) (m <<< n) (p <<< n) := fun i hi hm => by
  rw [BitVec.getLsbD_shiftLeft] at hm ⊢
  rw [BitVec.getLsbD_shiftLeft]
  by_cases hn : i < n
  · simp [hn]
  · simp [hn, hi] at hm ⊢
    exact h (i - n) (by omega) hm
theorem shr_has (h : Tn.Has v m p) (n : Nat) : Tn.Has (v >>> n) (m >>> n) (p >>> n) := fun i hi hm => by
  rw [BitVec.getLsbD_ushiftRight] at hm ⊢
  rw [BitVec.getLsbD_ushiftRight]
  by_cases hn : n + i < 64
  · exact h _ hn hm
  · rw [BitVec.getLsbD_of_ge p _ (by omega), BitVec.getLsbD_of_ge v _ (by omega)]
theorem sar_has (h : Tn.Has v m p) (n : Nat) : Tn.Has (v.sshiftRight n) (m.sshiftRight n) (p.sshiftRight n) := fun i hi hm => by
  rw [sar_get _ _ _ hi] at hm ⊢
  rw [sar_get _ _ _ hi]
  exact h _ (by omega) hm
theorem low_has (h : Tn.Has v m p) (c : BitVec 64) : Tn.Has (v &&& c) (m &&& c) (p &&& c) := fun i hi hm => by
  rw [BitVec.getLsbD_and] at hm ⊢
  rw [BitVec.getLsbD_and]
  cases hc : c.getLsbD i
  · simp
  · rw [hc] at hm; simp at hm ⊢; exact h i hi hm
theorem low_all (p : BitVec 64) (n : Nat) (h : 64 ≤ n) : p &&& (1#64 <<< n - 1#64) = p := by
  apply BitVec.eq_of_getLsbD_eq
  intro i hi
  rw [BitVec.getLsbD_and, low_bit n i hi, decide_eq_true (by omega)]; simp
theorem meetX_of (ha : Tn.Has av am p) (hb : Tn.Has bv bm p) : meetX av am bv bm = true := by
  rw [meetX, beq_iff_eq]
  apply BitVec.eq_of_getLsbD_eq
  intro i hi
  rw [BitVec.getLsbD_and, BitVec.getLsbD_not, BitVec.getLsbD_or, BitVec.getLsbD_xor]
  cases h1 : am.getLsbD i <;> cases h2 : bm.getLsbD i <;> simp
  have e1 := ha i hi h1
  have e2 := hb i hi h2
  rw [← e1, ← e2]; simp
theorem meetX_bit (h : meetX av am bv bm = true) (i : Nat) (hi : i < 64) (h1 : am.getLsbD i = false) (h2 : bm.getLsbD i = false) : av.getLsbD i = bv.getLsbD i := by
  rw [meetX, beq_iff_eq] at h
  have e : ((av ^^^ bv) &&& ~~~(am ||| bm)).getLsbD i = false := by rw [h]; simp
  rw [BitVec.getLsbD_and, BitVec.getLsbD_not, BitVec.getLsbD_or, BitVec.getLsbD_xor, h1, h2] at e
  simp [hi] at e
  exact e
theorem meet_no_has (oa : Tn.Ok av am) (ob : Tn.Ok bv bm) (ha : Tn.Has av am p) (h : meetX av am bv bm = false) : (p &&& ~~~bm == bv) = false := by
  cases e : (p &&& ~~~bm == bv)
  · rfl
  · rw [meetX_of ha ((has_iff ob).1 e)] at h; cases h
theorem meet_has (oa : Tn.Ok av am) (ob : Tn.Ok bv bm) (ha : Tn.Has av am p) (h : meetX av am bv bm = true) : (p &&& ~~~(mtM av am bv bm) == mtV av am bv bm) = (p &&& ~~~bm == bv) := by
  have em : mtM av am bv bm = am &&& bm := by rw [mtM, if_pos h]
  have ev : mtV av am bv bm = (av ||| bv) &&& ~~~(am &&& bm) := by rw [mtV, if_pos h]
  rw [em, ev]
  apply beq_true
  rw [has_iff (Tn.ok_cut _ _), has_iff ob]
  constructor
  · intro k i hi hb
    have := k i hi (by rw [BitVec.getLsbD_and, hb]; simp)
    rw [this, BitVec.getLsbD_and, BitVec.getLsbD_not, BitVec.getLsbD_and, BitVec.getLsbD_or, hb]
    cases h1 : am.getLsbD i
    · rw [meetX_bit h i hi h1 hb]; simp [hi]
    · rw [oa i hi h1]; simp [hi]
  · intro k i hi hm
    rw [BitVec.getLsbD_and] at hm
    rw [BitVec.getLsbD_and, BitVec.getLsbD_not, BitVec.getLsbD_and, BitVec.getLsbD_or]
    cases h1 : am.getLsbD i
    · rw [ha i hi h1]
      cases h2 : bm.getLsbD i
      · rw [meetX_bit h i hi h1 h2]; simp [hi]
      · rw [ob i hi h2]; simp [hi]
    · rw [h1] at hm
      simp at hm
      rw [k i hi hm, hm, oa i hi h1]; simp [hi]
theorem range_has (lo hi x : BitVec 64) (h1 : lo.toNat ≤ x.toNat) (h2 : x.toNat ≤ hi.toNat) : (x &&& ~~~(rgM lo hi) == rgV lo hi) = true := by
  have hlt : ¬ hi < lo := by
    intro h
    have : hi.toNat < lo.toNat := h
    omega
  rw [rgM, rgV, if_neg hlt, if_neg hlt, has_iff (Tn.ok_cut _ _)]
  have hn := (lenN_le (lo ^^^ hi).toNat (lenN (lo ^^^ hi).toNat)).1 (Nat.le_refl _)
  rw [rangeM]
  generalize lenN (lo ^^^ hi).toNat = n at *
  intro i hi' hm
  rw [low_bit n i hi'] at hm
  have hni : n ≤ i := by simpa using hm
  rw [BitVec.getLsbD_and, BitVec.getLsbD_not, low_bit n i hi', hm]
  have e : lo.toNat / 2 ^ n = hi.toNat / 2 ^ n := by
    have e0 : (lo ^^^ hi) >>> n = 0#64 := by
      apply BitVec.eq_of_toNat_eq
      rw [BitVec.toNat_ushiftRight, Nat.shiftRight_eq_div_pow, Nat.div_eq_of_lt hn]; rfl
    rw [show (lo ^^^ hi) >>> n = (lo >>> n) ^^^ (hi >>> n) from BitVec.ushiftRight_xor_distrib .., BitVec.xor_eq_zero_iff] at e0
    have := congrArg BitVec.toNat e0
    rwa [BitVec.toNat_ushiftRight, BitVec.toNat_ushiftRight, Nat.shiftRight_eq_div_pow, Nat.shiftRight_eq_div_pow] at this
  rw [Tn.between n h1 h2 e i hni]
  simp [hi']

/-! ### Lesser sets -/
theorem in_true (o : Tn.Ok bv bm) (h : Tn.In av am bv bm) : (am &&& ~~~bm == 0#64 && av &&& ~~~bm == bv) = true := (in_iff o).2 h
theorem some_in (v m x : BitVec 64) : Tn.In ((v ||| x &&& m) &&& ~~~(m &&& x)) (m &&& x) v m := fun i hi hm => by
  rw [BitVec.getLsbD_and, BitVec.getLsbD_and, BitVec.getLsbD_not, BitVec.getLsbD_or, BitVec.getLsbD_and, BitVec.getLsbD_and, hm]
  simp [hi]
theorem bits_in (f : Nat → Nat → Nat) (hf : ∀ x y x' y', x ≤ 2 → y ≤ 2 → x' ≤ 2 → y' ≤ 2 → (x' ≠ 2 → x = x') → (y' ≠ 2 → y = y') → f x' y' ≠ 2 → f x y = f x' y')
    {v m v' m' : BitVec 64} (h : Tn.In cv cm av am) (k : Tn.In dv dm bv bm) (e : ∀ i, i < 64 → Tn.bitT v m i = f (Tn.bitT cv cm i) (Tn.bitT dv dm i)) (e' : ∀ i, i < 64 → Tn.bitT v' m' i = f (Tn.bitT av am i) (Tn.bitT bv bm i)) : Tn.In v m v' m' :=
  Tn.in_bits.2 fun i hi hb => by
    rw [e' i hi] at hb
    rw [e i hi, e' i hi]
    exact hf _ _ _ _ (Tn.bitT_le _ _ _) (Tn.bitT_le _ _ _) (Tn.bitT_le _ _ _) (Tn.bitT_le _ _ _) (Tn.in_bits.1 h i hi) (Tn.in_bits.1 k i hi) hb
theorem three (P : Nat → Prop) (h0 : P 0) (h1 : P 1) (h2 : P 2) (x : Nat) (h : x ≤ 2) : P x := by
  rcases (by omega : x = 0 ∨ x = 1 ∨ x = 2) with rfl | rfl | rfl <;> assumption
theorem and_lesser (x y x' y' : Nat) (hx : x ≤ 2) (hy : y ≤ 2) (hx' : x' ≤ 2) (hy' : y' ≤ 2) (h : x' ≠ 2 → x = x') (k : y' ≠ 2 → y = y') (hn : Tn.andF x' y' ≠ 2) : Tn.andF x y = Tn.andF x' y' := by
  unfold Tn.andF at *
  rcases (by omega : x' = 0 ∨ x' = 1 ∨ x' = 2) with rfl | rfl | rfl <;> rcases (by omega : y' = 0 ∨ y' = 1 ∨ y' = 2) with rfl | rfl | rfl <;> simp_all
theorem or_lesser (x y x' y' : Nat) (hx : x ≤ 2) (hy : y ≤ 2) (hx' : x' ≤ 2) (hy' : y' ≤ 2) (h : x' ≠ 2 → x = x') (k : y' ≠ 2 → y = y') (hn : Tn.orF x' y' ≠ 2) : Tn.orF x y = Tn.orF x' y' := by
  unfold Tn.orF at *
  rcases (by omega : x' = 0 ∨ x' = 1 ∨ x' = 2) with rfl | rfl | rfl <;> rcases (by omega : y' = 0 ∨ y' = 1 ∨ y' = 2) with rfl | rfl | rfl <;> simp_all
theorem xor_lesser (x y x' y' : Nat) (hx : x ≤ 2) (hy : y ≤ 2) (hx' : x' ≤ 2) (hy' : y' ≤ 2) (h : x' ≠ 2 → x = x') (k : y' ≠ 2 → y = y') (hn : Tn.xorF x' y' ≠ 2) : Tn.xorF x y = Tn.xorF x' y' := by
  unfold Tn.xorF at *
  rcases (by omega : x' = 0 ∨ x' = 1 ∨ x' = 2) with rfl | rfl | rfl <;> rcases (by omega : y' = 0 ∨ y' = 1 ∨ y' = 2) with rfl | rfl | rfl <;> simp_all
theorem shl_in (h : Tn.In cv cm av am) (n : Nat) : Tn.In (cv <<< n) (cm <<< n) (av <<< n) (am <<< n) := fun i hi hm => by
  rw [BitVec.getLsbD_shiftLeft] at hm ⊢
  rw [BitVec.getLsbD_shiftLeft, BitVec.getLsbD_shiftLeft]
  by_cases hn : i < n
  · simp [hn]
  · simp [hn, hi] at hm ⊢
    exact h (i - n) (by omega) hm
theorem sar_in (h : Tn.In cv cm av am) (n : Nat) : Tn.In (cv.sshiftRight n) (cm.sshiftRight n) (av.sshiftRight n) (am.sshiftRight n) := fun i hi hm => by
  rw [sar_get _ _ _ hi] at hm ⊢
  rw [sar_get _ _ _ hi, sar_get _ _ _ hi]
  exact h _ (by omega) hm
theorem join_in (oc : Tn.Ok cv cm) (od : Tn.Ok dv dm) : Tn.In cv cm (cv &&& ~~~(joinM cv cm dv dm)) (joinM cv cm dv dm) :=
  Tn.in_bits.2 fun i hi hb => by
    rw [join_bit oc od i hi] at hb ⊢
    unfold Tn.joinF at *
    split <;> simp_all
theorem mul_const (v w : BitVec 64) : Tn.mulV v 0#64 w 0#64 = v * w ∧ Tn.mulU v 0#64 w 0#64 = 0#64 := by
  rw [Tn.mulV, Tn.mulU, Tn.mulM_const, Tn.addV, Tn.addU]
  simp
  exact BitVec.and_allOnes
theorem add_const (v w : BitVec 64) : Tn.addV v 0#64 w 0#64 = v + w ∧ Tn.addU v 0#64 w 0#64 = 0#64 := by
  rw [Tn.addV, Tn.addU]
  simp
  exact BitVec.and_allOnes
theorem sub_const (v w : BitVec 64) : Tn.subV v 0#64 w 0#64 = v - w ∧ Tn.subU v 0#64 w 0#64 = 0#64 := by
  rw [Tn.subV, Tn.subU]
  simp
  exact BitVec.and_allOnes
end
end Go.Proofs.YtekenpgagfmgkaaGreat.Tn
