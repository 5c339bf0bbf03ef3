/- Towards the statements of package tnum (layer 3): what TnumSound and TnumOrder ask of numbers: each answer of the program has what is reckoned with numbers of the sets; lesser sets stay lesser. -/
import Derived.Test.YtcbcijibgpaipaaGreatMB
namespace Go.Proofs.YtcbcijibgpaipaaGreat.Tn
set_option linter.unusedVariables false

section
variable {v m av am bv bm cv cm dv dm p q x y : BitVec 64}
theorem meetX_of (ha : Tn.Has av am p) (hb : Tn.Has bv bm p) : meetX av am bv bm = true := by
  rw [meetX, beq_iff_eq]
  apply BitVec.eq_of_getLsbD_eq
  intro i hi
  rw [BitVec.getLsbD_and, BitVec.getLsbD_not, BitVec.getLsbD_or, BitVec.getLsbD_xor]
  cases h1 : am.getLsbD i <;> cases h2 : bm.getLsbD i <;> simp
  have e1 := ha i hi h1
  have e2 := hb i hi h2
  rw [← e1, ← e2]; simp
theorem range_has (lo hi x : BitVec 64) (h1 : lo.toNat ≤ x.toNat) (h2 : x.toNat ≤ hi.toNat) : (x &&& ~~~(rgM lo hi) == rgV lo hi) = true := by
  have hlt : ¬ hi < lo := by
    intro h
    have : hi.toNat < lo.toNat := h
    omega
  rw [rgM, rgV, if_neg hlt, if_neg hlt, has_iff (Tn.ok_cut _ _)]
  have hn := (lenN_le (lo ^^^ hi).toNat (lenN (lo ^^^ hi).toNat)).1 (Nat.le_refl _)
  rw [rangeM]
  generalize lenN (lo ^^^ hi).toNat = n at *
  intro i hi' hm
  rw [low_bit n i hi'] at hm
  have hni : n ≤ i := by simpa using hm
  rw [BitVec.getLsbD_and, BitVec.getLsbD_not, low_bit n i hi', hm]
  have e : lo.toNat / 2 ^ n = hi.toNat / 2 ^ n := by
    have e0 : (lo ^^^ hi) >>> n = 0#64 := by
      apply BitVec.eq_of_toNat_eq
      rw [BitVec.toNat_ushiftRight, Nat.shiftRight_eq_div_pow, Nat.div_eq_of_lt hn]; rfl
    rw [show (lo ^^^ hi) >>> n = (lo >>> n) ^^^ (hi >>> n) from BitVec.ushiftRight_xor_distrib .., BitVec.xor_eq_zero_iff] at e0
    have := congrArg BitVec.toNat e0
    rwa [BitVec.toNat_ushiftRight, BitVec.toNat_ushiftRight, Nat.shiftRight_eq_div_pow, Nat.shiftRight_eq_div_pow] at this
  rw [Tn.between n h1 h2 e i hni]
  simp [hi']

/-! ### Lesser sets -/
end
end Go.Proofs.YtcbcijibgpaipaaGreat.Tn
