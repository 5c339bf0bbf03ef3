/- Towards the statements of package tnum (layer 3): sets of numbers by their bits, as bit vectors: sums, differences, products of two sets have the sums, differences, products of their numbers, and sums and differences are the least such sets. -/
import Derived.Test.YtekenpgagfmgkaaGreatTU64
namespace Go.Proofs.YtekenpgagfmgkaaGreat.Tn
set_option linter.unusedVariables false
namespace Tn

/-- x is one of the numbers of the set with these known bits and this mask. -/
def Has (v m x : BitVec 64) : Prop := ∀ i, i < 64 → m.getLsbD i = false → x.getLsbD i = v.getLsbD i
/-- The set may be. -/
def Ok (v m : BitVec 64) : Prop := ∀ i, i < 64 → m.getLsbD i = true → v.getLsbD i = false

theorem ok_and {v m : BitVec 64} (h : Ok v m) : v &&& m = 0#64 := by
  apply BitVec.eq_of_getLsbD_eq
  intro i hi
  rw [BitVec.getLsbD_and, BitVec.getLsbD_zero]
  cases hm : m.getLsbD i
  · simp
  · simp [h i hi hm]
theorem ok_of {v m : BitVec 64} (h : v &&& m = 0#64) : Ok v m := fun i hi hm => by
  have := congrArg (fun z => BitVec.getLsbD z i) h
  simp only [BitVec.getLsbD_and, BitVec.getLsbD_zero, hm, Bool.and_true] at this
  exact this
theorem ok_cut (v m : BitVec 64) : Ok (v &&& ~~~m) m := fun i hi hm => by simp [hm]
theorem has_self (v m : BitVec 64) : Has v m v := fun _ _ _ => rfl
theorem has_all (v m : BitVec 64) : Has v m (v ||| m) := fun i hi hm => by simp [hm]

/-- Fewer bits: a smaller number, at each place. -/
theorem sub_le {x y : BitVec 64} (h : ∀ i, i < 64 → x.getLsbD i = true → y.getLsbD i = true) (k : Nat) : x.toNat % 2 ^ k ≤ y.toNat % 2 ^ k := by
  have e : x &&& y = x := by
    apply BitVec.eq_of_getLsbD_eq
    intro i hi
    rw [BitVec.getLsbD_and]
    cases hx : x.getLsbD i
    · simp
    · simp [h i hi hx]
  have e2 := congrArg (fun z => BitVec.toNat z % 2 ^ k) e
  simp only [BitVec.toNat_and, Nat.and_mod_two_pow] at e2
  rw [← e2]
  exact Nat.and_le_right

theorem lo_le {v m x : BitVec 64} (h : Has v m x) (o : Ok v m) (k : Nat) : v.toNat % 2 ^ k ≤ x.toNat % 2 ^ k :=
  sub_le (fun i hi hv => by
    cases hm : m.getLsbD i
    · rw [h i hi hm]; exact hv
    · rw [o i hi hm] at hv; cases hv) k
theorem le_hi {v m x : BitVec 64} (h : Has v m x) (k : Nat) : x.toNat % 2 ^ k ≤ (v ||| m).toNat % 2 ^ k :=
  sub_le (fun i hi hx => by
    rw [BitVec.getLsbD_or]
    cases hm : m.getLsbD i
    · rw [← h i hi hm, hx]; rfl
    · simp) k

/-- The carry into the place i. -/
def ca (i : Nat) (x y : BitVec 64) : Bool := decide (2 ^ i ≤ x.toNat % 2 ^ i + y.toNat % 2 ^ i)
theorem bit_add (x y : BitVec 64) {i : Nat} (hi : i < 64) : (x + y).getLsbD i = (x.getLsbD i ^^ (y.getLsbD i ^^ ca i x y)) := by
  rw [BitVec.getLsbD_add hi]
  simp [BitVec.carry, ca]
theorem ca_mono {x y x' y' : BitVec 64} {i : Nat} (h : x.toNat % 2 ^ i ≤ x'.toNat % 2 ^ i) (k : y.toNat % 2 ^ i ≤ y'.toNat % 2 ^ i) (hc : ca i x y = true) : ca i x' y' = true := by
  simp only [ca, decide_eq_true_eq] at *
  omega

def addU (av am bv bm : BitVec 64) : BitVec 64 := ((am + bm) + (av + bv)) ^^^ (av + bv) ||| am ||| bm
def addV (av am bv bm : BitVec 64) : BitVec 64 := (av + bv) &&& ~~~(addU av am bv bm)

theorem add_top {av am bv bm : BitVec 64} (oa : Ok av am) (ob : Ok bv bm) : (am + bm) + (av + bv) = (av ||| am) + (bv ||| bm) := by
  rw [← BitVec.add_eq_or_of_and_eq_zero av am (ok_and oa), ← BitVec.add_eq_or_of_and_eq_zero bv bm (ok_and ob)]
  ac_rfl

theorem add_known {av am bv bm : BitVec 64} (oa : Ok av am) (ob : Ok bv bm) {i : Nat} (hi : i < 64) (hu : (addU av am bv bm).getLsbD i = false) :
    am.getLsbD i = false ∧ bm.getLsbD i = false ∧ ca i (av ||| am) (bv ||| bm) = ca i av bv := by
  simp only [addU, BitVec.getLsbD_or, BitVec.getLsbD_xor, Bool.or_eq_false_iff] at hu
  obtain ⟨⟨h1, h2⟩, h3⟩ := hu
  refine ⟨h2, h3, ?_⟩
  rw [add_top oa ob, bit_add _ _ hi, bit_add _ _ hi, BitVec.getLsbD_or, BitVec.getLsbD_or, h2, h3] at h1
  generalize ca i (av ||| am) (bv ||| bm) = c at *
  generalize ca i av bv = d at *
  generalize av.getLsbD i = e at *
  generalize bv.getLsbD i = f at *
  cases c <;> cases d <;> cases e <;> cases f <;> simp_all

theorem add_sound {av am bv bm p q : BitVec 64} (oa : Ok av am) (ob : Ok bv bm) (hp : Has av am p) (hq : Has bv bm q) : Has (addV av am bv bm) (addU av am bv bm) (p + q) := fun i hi hu => by
  obtain ⟨h2, h3, hc⟩ := add_known oa ob hi hu
  have e : ca i p q = ca i av bv := by
    cases h : ca i p q
    · cases h' : ca i av bv
      · rfl
      · rw [ca_mono (lo_le hp oa i) (lo_le hq ob i) h'] at h; exact h.symm
    · rw [← hc]; exact (ca_mono (le_hi hp i) (le_hi hq i) h).symm
  rw [addV, BitVec.getLsbD_and, BitVec.getLsbD_not, hu, bit_add _ _ hi, bit_add _ _ hi, hp i hi h2, hq i hi h3, e]
  simp [hi]

/-- The borrow at the place i. -/
def bo (i : Nat) (x y : BitVec 64) : Bool := decide (x.toNat % 2 ^ i < y.toNat % 2 ^ i)
theorem ca_sub (x y : BitVec 64) {i : Nat} (hi : i < 64) : ca i (x - y) y = bo i x y := by
  have e : (x - y + y).toNat = x.toNat := by rw [BitVec.sub_add_cancel]
  rw [BitVec.toNat_add] at e
  have hd : 2 ^ i ∣ 2 ^ 64 := Nat.pow_dvd_pow 2 (Nat.le_of_lt hi)
  have e2 := congrArg (fun n => n % 2 ^ i) e
  simp only [Nat.mod_mod_of_dvd _ hd] at e2
  rw [Nat.add_mod] at e2
  have h0 : 0 < 2 ^ i := Nat.two_pow_pos i
  have h1 := Nat.mod_lt (x - y).toNat h0
  have h2 := Nat.mod_lt y.toNat h0
  have h3 := Nat.mod_lt x.toNat h0
  simp only [ca, bo]
  generalize (x - y).toNat % 2 ^ i = D at *
  generalize y.toNat % 2 ^ i = Y at *
  generalize x.toNat % 2 ^ i = X at *
  generalize 2 ^ i = P at *
  by_cases h : P ≤ D + Y
  · rw [Nat.mod_eq_sub_mod h, Nat.mod_eq_of_lt (by omega)] at e2
    rw [decide_eq_true h, decide_eq_true (by omega)]
  · rw [Nat.mod_eq_of_lt (by omega)] at e2
    rw [decide_eq_false h, decide_eq_false (by omega)]
theorem bit_sub (x y : BitVec 64) {i : Nat} (hi : i < 64) : (x - y).getLsbD i = (x.getLsbD i ^^ (y.getLsbD i ^^ bo i x y)) := by
  have e := bit_add (x - y) y hi
  rw [BitVec.sub_add_cancel, ca_sub x y hi] at e
  rw [e]
  generalize (x - y).getLsbD i = a
  generalize y.getLsbD i = b
  generalize bo i x y = c
  cases a <;> cases b <;> cases c <;> rfl
theorem bo_mono {x y x' y' : BitVec 64} {i : Nat} (h : x'.toNat % 2 ^ i ≤ x.toNat % 2 ^ i) (k : y.toNat % 2 ^ i ≤ y'.toNat % 2 ^ i) (hc : bo i x y = true) : bo i x' y' = true := by
  simp only [bo, decide_eq_true_eq] at *
  omega

def subU (av am bv bm : BitVec 64) : BitVec 64 := ((av - bv) + am) ^^^ ((av - bv) - bm) ||| am ||| bm
def subV (av am bv bm : BitVec 64) : BitVec 64 := (av - bv) &&& ~~~(subU av am bv bm)

theorem sub_top {av am bv bm : BitVec 64} (oa : Ok av am) (ob : Ok bv bm) : (av - bv) + am = (av ||| am) - bv ∧ (av - bv) - bm = av - (bv ||| bm) := by
  rw [← BitVec.add_eq_or_of_and_eq_zero av am (ok_and oa), ← BitVec.add_eq_or_of_and_eq_zero bv bm (ok_and ob)]
  constructor
  · rw [BitVec.sub_eq_add_neg, BitVec.sub_eq_add_neg]; ac_rfl
  · rw [BitVec.sub_eq_add_neg, BitVec.sub_eq_add_neg, BitVec.sub_eq_add_neg, BitVec.neg_add, BitVec.sub_eq_add_neg]; ac_rfl

theorem sub_known {av am bv bm : BitVec 64} (oa : Ok av am) (ob : Ok bv bm) {i : Nat} (hi : i < 64) (hu : (subU av am bv bm).getLsbD i = false) :
    am.getLsbD i = false ∧ bm.getLsbD i = false ∧ bo i (av ||| am) bv = bo i av (bv ||| bm) := by
  simp only [subU, BitVec.getLsbD_or, BitVec.getLsbD_xor, Bool.or_eq_false_iff] at hu
  obtain ⟨⟨h1, h2⟩, h3⟩ := hu
  refine ⟨h2, h3, ?_⟩
  rw [(sub_top oa ob).1, (sub_top oa ob).2, bit_sub _ _ hi, bit_sub _ _ hi, BitVec.getLsbD_or, BitVec.getLsbD_or, h2, h3] at h1
  generalize bo i (av ||| am) bv = c at *
  generalize bo i av (bv ||| bm) = d at *
  generalize av.getLsbD i = e at *
  generalize bv.getLsbD i = f at *
  cases c <;> cases d <;> cases e <;> cases f <;> simp_all

theorem sub_bo {av am bv bm p q : BitVec 64} (oa : Ok av am) (ob : Ok bv bm) (hp : Has av am p) (hq : Has bv bm q) {i : Nat} (hc : bo i (av ||| am) bv = bo i av (bv ||| bm)) : bo i p q = bo i av (bv ||| bm) := by
  cases h : bo i p q
  · cases h' : bo i av (bv ||| bm)
    · rfl
    · rw [h'] at hc
      rw [bo_mono (le_hi hp i) (lo_le hq ob i) hc] at h; exact h.symm
  · exact (bo_mono (lo_le hp oa i) (le_hi hq i) h).symm

theorem sub_sound {av am bv bm p q : BitVec 64} (oa : Ok av am) (ob : Ok bv bm) (hp : Has av am p) (hq : Has bv bm q) : Has (subV av am bv bm) (subU av am bv bm) (p - q) := fun i hi hu => by
  obtain ⟨h2, h3, hc⟩ := sub_known oa ob hi hu
  have e : bo i p q = bo i av bv := by
    rw [sub_bo oa ob hp hq hc, sub_bo oa ob (has_self av am) (has_self bv bm) hc]
  rw [subV, BitVec.getLsbD_and, BitVec.getLsbD_not, hu, bit_sub _ _ hi, bit_sub _ _ hi, hp i hi h2, hq i hi h3, e]
  simp [hi]

/-! The least sets: each bit that is not known is one in which two answers differ. -/
theorem or_pow_mod (x : BitVec 64) {i : Nat} (hi : i < 64) : (x ||| BitVec.twoPow 64 i).toNat % 2 ^ i = x.toNat % 2 ^ i := by
  rw [BitVec.toNat_or, Nat.or_mod_two_pow, BitVec.toNat_twoPow]
  have hd : 2 ^ i ∣ 2 ^ 64 := Nat.pow_dvd_pow 2 (Nat.le_of_lt hi)
  rw [Nat.mod_mod_of_dvd _ hd, Nat.mod_self, Nat.or_zero]
theorem has_one {v m : BitVec 64} {i : Nat} (hm : m.getLsbD i = true) : Has v m (v ||| BitVec.twoPow 64 i) := fun j hj hmj => by
  rw [BitVec.getLsbD_or, BitVec.getLsbD_twoPow]
  have : i ≠ j := fun e => by rw [e, hmj] at hm; cases hm
  simp [this]
theorem bit_one (x : BitVec 64) {i : Nat} (hi : i < 64) : (x ||| BitVec.twoPow 64 i).getLsbD i = true := by
  rw [BitVec.getLsbD_or, BitVec.getLsbD_twoPow]; simp [hi]

theorem add_exact {av am bv bm : BitVec 64} (oa : Ok av am) (ob : Ok bv bm) {i : Nat} (hi : i < 64) (hu : (addU av am bv bm).getLsbD i = true) :
    ∃ p q, Has av am p ∧ Has bv bm q ∧ (p + q).getLsbD i ≠ (av + bv).getLsbD i := by
  cases ha : am.getLsbD i
  · cases hb : bm.getLsbD i
    · refine ⟨av ||| am, bv ||| bm, has_all _ _, has_all _ _, ?_⟩
      simp only [addU, BitVec.getLsbD_or, BitVec.getLsbD_xor, ha, hb, Bool.or_false] at hu
      rw [add_top oa ob] at hu
      intro e
      rw [e] at hu
      simp at hu
    · refine ⟨av, bv ||| BitVec.twoPow 64 i, has_self _ _, has_one hb, ?_⟩
      rw [bit_add _ _ hi, bit_add _ _ hi, bit_one _ hi, ob i hi hb]
      have e : ca i av (bv ||| BitVec.twoPow 64 i) = ca i av bv := by simp only [ca, or_pow_mod bv hi]
      rw [e]
      cases av.getLsbD i <;> cases ca i av bv <;> decide
  · refine ⟨av ||| BitVec.twoPow 64 i, bv, has_one ha, has_self _ _, ?_⟩
    rw [bit_add _ _ hi, bit_add _ _ hi, bit_one _ hi, oa i hi ha]
    have e : ca i (av ||| BitVec.twoPow 64 i) bv = ca i av bv := by simp only [ca, or_pow_mod av hi]
    rw [e]
    cases bv.getLsbD i <;> cases ca i av bv <;> decide

/-- Two answers that differ in a bit: one of them differs from any third one there. -/
theorem sub_exact {av am bv bm : BitVec 64} (oa : Ok av am) (ob : Ok bv bm) {i : Nat} (hi : i < 64) (hu : (subU av am bv bm).getLsbD i = true) :
    ∃ p q, Has av am p ∧ Has bv bm q ∧ (p - q).getLsbD i ≠ (av - bv).getLsbD i := by
  cases ha : am.getLsbD i
  · cases hb : bm.getLsbD i
    · simp only [subU, BitVec.getLsbD_or, BitVec.getLsbD_xor, ha, hb, Bool.or_false] at hu
      rw [(sub_top oa ob).1, (sub_top oa ob).2] at hu
      by_cases h : ((av ||| am) - bv).getLsbD i = (av - bv).getLsbD i
      · refine ⟨av, bv ||| bm, has_self _ _, has_all _ _, fun e => ?_⟩
        rw [e, h] at hu
        simp at hu
      · exact ⟨av ||| am, bv, has_all _ _, has_self _ _, h⟩
    · refine ⟨av, bv ||| BitVec.twoPow 64 i, has_self _ _, has_one hb, ?_⟩
      rw [bit_sub _ _ hi, bit_sub _ _ hi, bit_one _ hi, ob i hi hb]
      have e : bo i av (bv ||| BitVec.twoPow 64 i) = bo i av bv := by simp only [bo, or_pow_mod bv hi]
      rw [e]
      cases av.getLsbD i <;> cases bo i av bv <;> decide
  · refine ⟨av ||| BitVec.twoPow 64 i, bv, has_one ha, has_self _ _, ?_⟩
    rw [bit_sub _ _ hi, bit_sub _ _ hi, bit_one _ hi, oa i hi ha]
    have e : bo i (av ||| BitVec.twoPow 64 i) bv = bo i av bv := by simp only [bo, or_pow_mod av hi]
    rw [e]
    cases bv.getLsbD i <;> cases bo i av bv <;> decide

/-- a's numbers are all b's. -/
def In (av am bv bm : BitVec 64) : Prop := ∀ i, i < 64 → bm.getLsbD i = false → am.getLsbD i = false ∧ av.getLsbD i = bv.getLsbD i
theorem in_has {av am bv bm x : BitVec 64} (h : In av am bv bm) (hx : Has av am x) : Has bv bm x := fun i hi hb => by
  obtain ⟨h1, h2⟩ := h i hi hb
  rw [hx i hi h1, h2]

/-- A set that has all answers, and of which each unknown bit is one in which two answers differ, is within each set that has all answers. -/
theorem in_of {cv cm av am : BitVec 64} (R : BitVec 64 → Prop) (x0 : BitVec 64) (h0 : R x0) (hc : Has cv cm x0)
    (hex : ∀ i, i < 64 → cm.getLsbD i = true → ∃ x, R x ∧ x.getLsbD i ≠ x0.getLsbD i) (ha : ∀ x, R x → Has av am x) : In cv cm av am := fun i hi hm => by
  have h : cm.getLsbD i = false := by
    cases hcm : cm.getLsbD i
    · rfl
    · obtain ⟨x, hx, hne⟩ := hex i hi hcm
      exact absurd ((ha x hx i hi hm).trans (ha x0 h0 i hi hm).symm) hne
  exact ⟨h, (hc i hi h).symm.trans (ha x0 h0 i hi hm)⟩

theorem add_mono {av am bv bm cv cm dv dm : BitVec 64} (oa : Ok av am) (ob : Ok bv bm) (oc : Ok cv cm) (od : Ok dv dm) (h : In cv cm av am) (k : In dv dm bv bm) :
    In (addV cv cm dv dm) (addU cv cm dv dm) (addV av am bv bm) (addU av am bv bm) :=
  in_of (fun x => ∃ p q, Has cv cm p ∧ Has dv dm q ∧ x = p + q) (cv + dv) ⟨cv, dv, has_self _ _, has_self _ _, rfl⟩ (add_sound oc od (has_self _ _) (has_self _ _))
    (fun i hi hm => by
      obtain ⟨p, q, hp, hq, hne⟩ := add_exact oc od hi hm
      exact ⟨p + q, ⟨p, q, hp, hq, rfl⟩, hne⟩)
    (fun x hx => by
      obtain ⟨p, q, hp, hq, rfl⟩ := hx
      exact add_sound oa ob (in_has h hp) (in_has k hq))
theorem sub_mono {av am bv bm cv cm dv dm : BitVec 64} (oa : Ok av am) (ob : Ok bv bm) (oc : Ok cv cm) (od : Ok dv dm) (h : In cv cm av am) (k : In dv dm bv bm) :
    In (subV cv cm dv dm) (subU cv cm dv dm) (subV av am bv bm) (subU av am bv bm) :=
  in_of (fun x => ∃ p q, Has cv cm p ∧ Has dv dm q ∧ x = p - q) (cv - dv) ⟨cv, dv, has_self _ _, has_self _ _, rfl⟩ (sub_sound oc od (has_self _ _) (has_self _ _))
    (fun i hi hm => by
      obtain ⟨p, q, hp, hq, hne⟩ := sub_exact oc od hi hm
      exact ⟨p - q, ⟨p, q, hp, hq, rfl⟩, hne⟩)
    (fun x hx => by
      obtain ⟨p, q, hp, hq, rfl⟩ := hx
      exact sub_sound oa ob (in_has h hp) (in_has k hq))

/-! ### Products -/
theorem ok_zero (m : BitVec 64) : Ok 0#64 m := fun i hi _ => by simp
theorem ok_const (v : BitVec 64) : Ok v 0#64 := fun i hi h => by simp at h
theorem addV_zero (t m : BitVec 64) : addV 0#64 t 0#64 m = 0#64 := by simp [addV]

/-- The mask behind k bits of a. -/
def mulM (av am bv bm : BitVec 64) : Nat → BitVec 64
  | 0 => 0#64
  | k + 1 => if am.getLsbD k then addU 0#64 (mulM av am bv bm k) 0#64 ((bv ||| bm) <<< k)
    else if av.getLsbD k then addU 0#64 (mulM av am bv bm k) 0#64 (bm <<< k) else mulM av am bv bm k
def mulU (av am bv bm : BitVec 64) : BitVec 64 := addU 0#64 (mulM av am bv bm 64) (av * bv) 0#64
def mulV (av am bv bm : BitVec 64) : BitVec 64 := addV 0#64 (mulM av am bv bm 64) (av * bv) 0#64

/-- The lowest k bits, one by one. -/
def lowB (x : BitVec 64) : Nat → BitVec 64
  | 0 => 0#64
  | k + 1 => lowB x k + (if x.getLsbD k then BitVec.twoPow 64 k else 0#64)
theorem lowB_nat (x : BitVec 64) : ∀ k, k ≤ 64 → (lowB x k).toNat = x.toNat % 2 ^ k
  | 0, _ => by simp [lowB, Nat.mod_one]
  | k + 1, h => by
    have hk : k < 64 := h
    have h1 : 2 ^ k < 2 ^ 64 := Nat.pow_lt_pow_right (by omega) hk
    have h2 := Nat.mod_lt x.toNat (Nat.two_pow_pos (k + 1))
    have h3 : 2 ^ (k + 1) ≤ 2 ^ 64 := Nat.pow_le_pow_right (by omega) h
    have e : x.toNat % 2 ^ (k + 1) = x.toNat % 2 ^ k + 2 ^ k * (x.toNat / 2 ^ k % 2) := by rw [Nat.pow_succ, Nat.mod_mul]
    have eb : x.getLsbD k = decide (x.toNat / 2 ^ k % 2 = 1) := Nat.testBit_eq_decide_div_mod_eq
    rw [lowB, BitVec.toNat_add, lowB_nat x k (by omega), eb]
    rcases Nat.mod_two_eq_zero_or_one (x.toNat / 2 ^ k) with hb | hb
    · rw [hb, Nat.mul_zero, Nat.add_zero] at e
      rw [hb]
      simp only [Nat.zero_ne_one, decide_false, Bool.false_eq_true, if_false, BitVec.toNat_zero, Nat.add_zero]
      rw [e] at h2 ⊢
      exact Nat.mod_eq_of_lt (by omega)
    · rw [hb, Nat.mul_one] at e
      rw [hb]
      simp only [decide_true, if_true, BitVec.toNat_twoPow, Nat.mod_eq_of_lt h1]
      rw [e] at h2 ⊢
      exact Nat.mod_eq_of_lt (by omega)
theorem lowB_all (x : BitVec 64) : lowB x 64 = x := by
  apply BitVec.eq_of_toNat_eq
  rw [lowB_nat x 64 (by omega)]
  exact Nat.mod_eq_of_lt x.isLt

theorem has_zero {m x : BitVec 64} (h : ∀ i, i < 64 → x.getLsbD i = true → m.getLsbD i = true) : Has 0#64 m x := fun i hi hm => by
  rw [BitVec.getLsbD_zero]
  cases hx : x.getLsbD i
  · rfl
  · rw [h i hi hx] at hm; cases hm
theorem has_shl {m x : BitVec 64} (h : ∀ i, i < 64 → x.getLsbD i = true → m.getLsbD i = true) (k : Nat) : Has 0#64 (m <<< k) (x <<< k) :=
  has_zero fun i hi hx => by
    rw [BitVec.getLsbD_shiftLeft] at hx ⊢
    simp only [Bool.and_eq_true] at hx
    rw [hx.1.1, hx.1.2, h (i - k) (by omega) hx.2]; rfl
theorem rest_eq {v m x : BitVec 64} (o : Ok v m) (h : Has v m x) : x - v = x &&& m := by
  have e : x = v + (x &&& m) := by
    rw [BitVec.add_eq_or_of_and_eq_zero]
    · apply BitVec.eq_of_getLsbD_eq
      intro i hi
      rw [BitVec.getLsbD_or, BitVec.getLsbD_and]
      cases hm : m.getLsbD i
      · rw [h i hi hm]; simp
      · rw [o i hi hm]; simp
    · apply BitVec.eq_of_getLsbD_eq
      intro i hi
      rw [BitVec.getLsbD_and, BitVec.getLsbD_and, BitVec.getLsbD_zero]
      cases hm : m.getLsbD i
      · simp
      · rw [o i hi hm]; simp
  rw [BitVec.sub_eq_iff_eq_add, BitVec.add_comm]
  exact e

theorem mul_split (x s q y t b : BitVec 64) : (x + s) * q - (y + t) * b = (x * q - y * b) + (s * q - t * b) := by
  rw [BitVec.add_mul, BitVec.add_mul, BitVec.sub_eq_add_neg, BitVec.sub_eq_add_neg, BitVec.sub_eq_add_neg, BitVec.neg_add, BitVec.sub_eq_add_neg]
  ac_rfl

theorem mul_part {av am bv bm p q : BitVec 64} (oa : Ok av am) (ob : Ok bv bm) (hp : Has av am p) (hq : Has bv bm q) : ∀ k, k ≤ 64 → Has 0#64 (mulM av am bv bm k) (lowB p k * q - lowB av k * bv)
  | 0, _ => by simp [lowB, mulM]; exact has_self _ _
  | k + 1, h => by
    have hk : k < 64 := h
    have ih := mul_part oa ob hp hq k (by omega)
    have step : ∀ m e, Has 0#64 m e → Has 0#64 (addU 0#64 (mulM av am bv bm k) 0#64 m) ((lowB p k * q - lowB av k * bv) + e) := fun m e he => by
      have := add_sound (ok_zero _) (ok_zero _) ih he
      rw [addV_zero] at this
      exact this
    have sub : ∀ i, i < 64 → q.getLsbD i = true → (bv ||| bm).getLsbD i = true := fun i hi hqi => by
      rw [BitVec.getLsbD_or]
      cases hm : bm.getLsbD i
      · rw [← hq i hi hm, hqi]; rfl
      · simp
    rw [lowB, lowB, mul_split, mulM]
    cases ha : am.getLsbD k
    · simp only [Bool.false_eq_true, if_false]
      rw [hp k hk ha]
      cases hv : av.getLsbD k
      · simp only [Bool.false_eq_true, if_false, BitVec.zero_mul, BitVec.sub_self, BitVec.add_zero]
        exact ih
      · simp only [if_true]
        refine step _ _ ?_
        have e : BitVec.twoPow 64 k * q - BitVec.twoPow 64 k * bv = (q &&& bm) <<< k := by
          rw [← rest_eq ob hq, BitVec.shiftLeft_eq_mul_twoPow, BitVec.mul_comm (q - bv), BitVec.mul_sub]
        rw [e]
        exact has_shl (fun i hi hx => by rw [BitVec.getLsbD_and, Bool.and_eq_true] at hx; exact hx.2) k
    · simp only [if_true]
      rw [oa k hk ha]
      simp only [Bool.false_eq_true, if_false, BitVec.zero_mul, BitVec.sub_zero]
      refine step _ _ ?_
      cases hpk : p.getLsbD k
      · simp only [Bool.false_eq_true, if_false, BitVec.zero_mul]
        exact has_zero (fun i hi hx => by simp at hx)
      · simp only [if_true]
        rw [BitVec.mul_comm, ← BitVec.shiftLeft_eq_mul_twoPow]
        exact has_shl sub k

theorem mul_sound {av am bv bm p q : BitVec 64} (oa : Ok av am) (ob : Ok bv bm) (hp : Has av am p) (hq : Has bv bm q) : Has (mulV av am bv bm) (mulU av am bv bm) (p * q) := by
  have h := mul_part oa ob hp hq 64 (by omega)
  rw [lowB_all, lowB_all] at h
  have := add_sound (ok_zero _) (ok_const (av * bv)) h (has_self (av * bv) 0#64)
  rw [BitVec.sub_add_cancel] at this
  exact this

/-! ### Bit by bit: what a loop over the places puts together -/
/-- 0, 1, or 2: not known. -/
def bitT (v m : BitVec 64) (i : Nat) : Nat := if m.getLsbD i then 2 else if v.getLsbD i then 1 else 0
def accB (f : Nat → Bool) : Nat → BitVec 64
  | 0 => 0#64
  | k + 1 => if f k then accB f k ||| (1#64 <<< k) else accB f k
theorem one_shl (k i : Nat) : (1#64 <<< k).getLsbD i = (decide (i < 64) && decide (i = k)) := by
  rw [BitVec.getLsbD_shiftLeft, BitVec.getLsbD_one]
  by_cases h : i < 64 <;> by_cases e : i = k
  · subst e; simp [h]
  · by_cases l : i < k
    · simp [h, e, l]
    · have : i - k ≠ 0 := by omega
      simp [e, this]
  · simp [h]
  · simp [h]
theorem acc_get (f : Nat → Bool) (i : Nat) (hi : i < 64) : ∀ k, (accB f k).getLsbD i = (decide (i < k) && f i)
  | 0 => by simp [accB]
  | k + 1 => by
    have ih := acc_get f i hi k
    unfold accB
    by_cases e : i = k
    · subst e
      cases hf : f i
      · simp [ih]
      · simp [hi]
    · have h1 : decide (i < k + 1) = decide (i < k) := by
        by_cases h : i < k
        · rw [decide_eq_true h, decide_eq_true (by omega)]
        · rw [decide_eq_false h, decide_eq_false (by omega)]
      rw [h1]
      split
      · rw [BitVec.getLsbD_or, ih, one_shl]; simp [e]
      · exact ih
theorem acc_eq {f : Nat → Bool} {x : BitVec 64} (h : ∀ i, i < 64 → x.getLsbD i = f i) : accB f 64 = x := by
  apply BitVec.eq_of_getLsbD_eq
  intro i hi
  rw [acc_get f i hi 64, h i hi]
  simp [hi]
theorem pair_ext {v m v' m' : BitVec 64} (o : Ok v m) (o' : Ok v' m') (h : ∀ i, i < 64 → bitT v m i = bitT v' m' i) : v = v' ∧ m = m' := by
  have key : ∀ i, i < 64 → v.getLsbD i = v'.getLsbD i ∧ m.getLsbD i = m'.getLsbD i := fun i hi => by
    have e := h i hi
    have e1 := o i hi
    have e2 := o' i hi
    unfold bitT at e
    cases hm : m.getLsbD i <;> cases hm' : m'.getLsbD i <;> cases hv : v.getLsbD i <;> cases hv' : v'.getLsbD i <;> simp_all
  exact ⟨BitVec.eq_of_getLsbD_eq fun i hi => (key i hi).1, BitVec.eq_of_getLsbD_eq fun i hi => (key i hi).2⟩

/-! ### The least set of some numbers -/
/-- What the fold has: the value cut, the mask. -/
def leastM : BitVec 64 → BitVec 64 → List (BitVec 64) → BitVec 64 × BitVec 64
  | v, m, [] => (v, m)
  | v, m, x :: l => leastM (x &&& ~~~(m ||| (v ^^^ x))) (m ||| (v ^^^ x)) l
theorem least_is (x0 : BitVec 64) : ∀ (l : List (BitVec 64)) (v m : BitVec 64) (R : BitVec 64 → Prop), R x0 → Ok v m → (∀ x, R x → Has v m x) → (∀ i, i < 64 → m.getLsbD i = true → ∃ x, R x ∧ x.getLsbD i ≠ x0.getLsbD i) →
    ∀ v' m', Ok v' m' → (∀ x, R x ∨ x ∈ l → Has v' m' x) → (∀ i, i < 64 → m'.getLsbD i = true → ∃ x, (R x ∨ x ∈ l) ∧ x.getLsbD i ≠ x0.getLsbD i) → leastM v m l = (v', m')
  | [], v, m, R, h0, o, ha, hex, v', m', o', ha', hex' => by
    have i1 : In v m v' m' := in_of R x0 h0 (ha x0 h0) hex (fun x hx => ha' x (Or.inl hx))
    have i2 : In v' m' v m := in_of R x0 h0 (ha' x0 (Or.inl h0)) (fun i hi hm => by
      obtain ⟨x, hx, hne⟩ := hex' i hi hm
      rcases hx with hx | hx
      · exact ⟨x, hx, hne⟩
      · cases hx) ha
    have key : ∀ i, i < 64 → bitT v m i = bitT v' m' i := fun i hi => by
      unfold bitT
      cases hm : m.getLsbD i
      · obtain ⟨e1, e2⟩ := i2 i hi hm
        rw [e1, e2]
      · cases hm' : m'.getLsbD i
        · obtain ⟨e1, e2⟩ := i1 i hi hm'
          rw [e1] at hm; cases hm
        · rfl
    obtain ⟨rfl, rfl⟩ := pair_ext o o' key
    rfl
  | x :: l, v, m, R, h0, o, ha, hex, v', m', o', ha', hex' => by
    unfold leastM
    have hb : ∀ i, i < 64 → (m ||| (v ^^^ x)).getLsbD i = (m.getLsbD i || (v.getLsbD i ^^ x.getLsbD i)) := fun i hi => by rw [BitVec.getLsbD_or, BitVec.getLsbD_xor]
    refine least_is x0 l _ _ (fun y => R y ∨ y = x) (Or.inl h0) (ok_cut _ _) (fun y hy i hi hu => ?_) (fun i hi hu => ?_) v' m' o' (fun y hy => ?_) (fun i hi hm => ?_)
    · have hu2 := hu
      rw [hb i hi, Bool.or_eq_false_iff] at hu2
      rw [BitVec.getLsbD_and, BitVec.getLsbD_not, hu]
      rcases hy with hy | rfl
      · rw [ha y hy i hi hu2.1]
        have := hu2.2
        cases hv : v.getLsbD i <;> cases hx : x.getLsbD i <;> simp_all
      · simp [hi]
    · rw [hb i hi] at hu
      cases hm : m.getLsbD i
      · rw [hm, Bool.false_or] at hu
        refine ⟨x, Or.inr rfl, fun e => ?_⟩
        rw [e, ha x0 h0 i hi hm] at hu
        simp at hu
      · obtain ⟨y, hy, hne⟩ := hex i hi hm
        exact ⟨y, Or.inl hy, hne⟩
    · rcases hy with (hy | rfl) | hy
      · exact ha' y (Or.inl hy)
      · exact ha' y (Or.inr (List.mem_cons_self ..))
      · exact ha' y (Or.inr (List.mem_cons_of_mem _ hy))
    · obtain ⟨y, hy, hne⟩ := hex' i hi hm
      rcases hy with hy | hy
      · exact ⟨y, Or.inl (Or.inl hy), hne⟩
      · rcases List.mem_cons.1 hy with rfl | hy
        · exact ⟨y, Or.inl (Or.inr rfl), hne⟩
        · exact ⟨y, Or.inr hy, hne⟩
/-- A set that has all of some numbers, and of which each unknown bit is one in which one of them differs from the first one, is the least one. -/
theorem least_eq {x0 : BitVec 64} {l : List (BitVec 64)} {v m : BitVec 64} (o : Ok v m) (ha : ∀ x, x ∈ x0 :: l → Has v m x) (hex : ∀ i, i < 64 → m.getLsbD i = true → ∃ x, x ∈ x0 :: l ∧ x.getLsbD i ≠ x0.getLsbD i) : leastM x0 0#64 l = (v, m) :=
  least_is x0 l x0 0#64 (fun x => x = x0) rfl (ok_const _) (fun x hx => by rw [hx]; exact has_self _ _) (fun i hi h => by simp at h) v m o
    (fun x hx => ha x (by rcases hx with rfl | hx <;> simp_all))
    (fun i hi hm => by
      obtain ⟨x, hx, hne⟩ := hex i hi hm
      rcases List.mem_cons.1 hx with rfl | hx
      · exact ⟨x, Or.inl rfl, hne⟩
      · exact ⟨x, Or.inr hx, hne⟩)

/-! ### Sets put together bit by bit -/
def mkV (f : Nat → Nat) : BitVec 64 := accB (fun i => f i == 1) 64
def mkM (f : Nat → Nat) : BitVec 64 := accB (fun i => f i == 2) 64
theorem mkV_get (f : Nat → Nat) {i : Nat} (hi : i < 64) : (mkV f).getLsbD i = (f i == 1) := by rw [mkV, acc_get _ i hi 64]; simp [hi]
theorem mkM_get (f : Nat → Nat) {i : Nat} (hi : i < 64) : (mkM f).getLsbD i = (f i == 2) := by rw [mkM, acc_get _ i hi 64]; simp [hi]
theorem ok_mk (f : Nat → Nat) : Ok (mkV f) (mkM f) := fun i hi h => by
  rw [mkM_get f hi] at h
  have e : f i = 2 := by simpa using h
  rw [mkV_get f hi, e]; rfl
theorem bitT_le (v m : BitVec 64) (i : Nat) : bitT v m i ≤ 2 := by unfold bitT; split <;> (try split) <;> omega
theorem bit_mk (f : Nat → Nat) {i : Nat} (hi : i < 64) (h : f i ≤ 2) : bitT (mkV f) (mkM f) i = f i := by
  unfold bitT
  rw [mkM_get f hi, mkV_get f hi]
  rcases (by omega : f i = 0 ∨ f i = 1 ∨ f i = 2) with e | e | e <;> rw [e] <;> rfl
/-- A set that may be is the one that its bits put together. -/
theorem mk_eq {v m : BitVec 64} (o : Ok v m) {f : Nat → Nat} (h : ∀ i, i < 64 → bitT v m i = f i) : v = mkV f ∧ m = mkM f :=
  pair_ext o (ok_mk f) fun i hi => by rw [bit_mk f hi (by rw [← h i hi]; exact bitT_le v m i)]; exact h i hi
theorem has_bits {v m x : BitVec 64} : Has v m x ↔ ∀ i, i < 64 → bitT v m i ≠ 2 → bitT v m i = (x.getLsbD i).toNat := by
  constructor
  · intro h i hi hb
    unfold bitT at *
    cases hm : m.getLsbD i
    · rw [h i hi hm]; cases v.getLsbD i <;> rfl
    · rw [hm] at hb; exact absurd rfl hb
  · intro h i hi hm
    have := h i hi (by unfold bitT; rw [hm]; cases v.getLsbD i <;> decide)
    unfold bitT at this
    rw [hm] at this
    cases hv : v.getLsbD i <;> cases hx : x.getLsbD i <;> simp_all
theorem in_bits {av am bv bm : BitVec 64} : In av am bv bm ↔ ∀ i, i < 64 → bitT bv bm i ≠ 2 → bitT av am i = bitT bv bm i := by
  constructor
  · intro h i hi hb
    cases hm : bm.getLsbD i
    · obtain ⟨h1, h2⟩ := h i hi hm
      unfold bitT; rw [hm, h1, h2]
    · unfold bitT at hb; rw [hm] at hb; exact absurd rfl hb
  · intro h i hi hm
    have := h i hi (by unfold bitT; rw [hm]; cases bv.getLsbD i <;> decide)
    unfold bitT at this
    rw [hm] at this
    cases ha : am.getLsbD i <;> cases hv : av.getLsbD i <;> cases hx : bv.getLsbD i <;> simp_all

def joinF (x y : Nat) : Nat := if x = y then x else 2
def andF (x y : Nat) : Nat := if x = 0 ∨ y = 0 then 0 else if x = 1 ∧ y = 1 then 1 else 2
def orF (x y : Nat) : Nat := if x = 1 ∨ y = 1 then 1 else if x = 0 ∧ y = 0 then 0 else 2
def xorF (x y : Nat) : Nat := if x ≠ 2 ∧ y ≠ 2 then (if x = y then 0 else 1) else 2

theorem and_fin (x y : Nat) (hx : x ≤ 2) (hy : y ≤ 2) (p q : Bool) : (x ≠ 2 → x = p.toNat) → (y ≠ 2 → y = q.toNat) → andF x y ≠ 2 → andF x y = (p && q).toNat := by
  rcases (by omega : x = 0 ∨ x = 1 ∨ x = 2) with rfl | rfl | rfl <;> rcases (by omega : y = 0 ∨ y = 1 ∨ y = 2) with rfl | rfl | rfl <;> cases p <;> cases q <;> decide
theorem or_fin (x y : Nat) (hx : x ≤ 2) (hy : y ≤ 2) (p q : Bool) : (x ≠ 2 → x = p.toNat) → (y ≠ 2 → y = q.toNat) → orF x y ≠ 2 → orF x y = (p || q).toNat := by
  rcases (by omega : x = 0 ∨ x = 1 ∨ x = 2) with rfl | rfl | rfl <;> rcases (by omega : y = 0 ∨ y = 1 ∨ y = 2) with rfl | rfl | rfl <;> cases p <;> cases q <;> decide
theorem xor_fin (x y : Nat) (hx : x ≤ 2) (hy : y ≤ 2) (p q : Bool) : (x ≠ 2 → x = p.toNat) → (y ≠ 2 → y = q.toNat) → xorF x y ≠ 2 → xorF x y = (p ^^ q).toNat := by
  rcases (by omega : x = 0 ∨ x = 1 ∨ x = 2) with rfl | rfl | rfl <;> rcases (by omega : y = 0 ∨ y = 1 ∨ y = 2) with rfl | rfl | rfl <;> cases p <;> cases q <;> decide
theorem bit_cases (v m : BitVec 64) (i : Nat) : bitT v m i = 0 ∨ bitT v m i = 1 ∨ bitT v m i = 2 := by have := bitT_le v m i; omega
section
variable {av am bv bm v m p q : BitVec 64}
theorem and_sound (hp : Has av am p) (hq : Has bv bm q) (h : ∀ i, i < 64 → bitT v m i = andF (bitT av am i) (bitT bv bm i)) : Has v m (p &&& q) := has_bits.2 fun i hi hb => by
  rw [h i hi] at hb ⊢
  rw [BitVec.getLsbD_and]
  exact and_fin _ _ (bitT_le _ _ _) (bitT_le _ _ _) _ _ (has_bits.1 hp i hi) (has_bits.1 hq i hi) hb
theorem or_sound (hp : Has av am p) (hq : Has bv bm q) (h : ∀ i, i < 64 → bitT v m i = orF (bitT av am i) (bitT bv bm i)) : Has v m (p ||| q) := has_bits.2 fun i hi hb => by
  rw [h i hi] at hb ⊢
  rw [BitVec.getLsbD_or]
  exact or_fin _ _ (bitT_le _ _ _) (bitT_le _ _ _) _ _ (has_bits.1 hp i hi) (has_bits.1 hq i hi) hb
theorem xor_sound (hp : Has av am p) (hq : Has bv bm q) (h : ∀ i, i < 64 → bitT v m i = xorF (bitT av am i) (bitT bv bm i)) : Has v m (p ^^^ q) := has_bits.2 fun i hi hb => by
  rw [h i hi] at hb ⊢
  rw [BitVec.getLsbD_xor]
  exact xor_fin _ _ (bitT_le _ _ _) (bitT_le _ _ _) _ _ (has_bits.1 hp i hi) (has_bits.1 hq i hi) hb
theorem join_left (hp : Has av am p) (h : ∀ i, i < 64 → bitT v m i = joinF (bitT av am i) (bitT bv bm i)) : Has v m p := has_bits.2 fun i hi hb => by
  have e1 := has_bits.1 hp i hi
  rw [h i hi, joinF] at hb ⊢
  split at hb
  · rename_i e; rw [if_pos e]; exact e1 hb
  · exact absurd rfl hb
theorem join_right (hq : Has bv bm q) (h : ∀ i, i < 64 → bitT v m i = joinF (bitT av am i) (bitT bv bm i)) : Has v m q := has_bits.2 fun i hi hb => by
  have e1 := has_bits.1 hq i hi
  rw [h i hi, joinF] at hb ⊢
  split at hb
  · rename_i e; rw [if_pos e, e]; exact e1 (e ▸ hb)
  · exact absurd rfl hb
end
/-- A set moved: each place has the bit of another place, or 0: so has each of its numbers. -/
theorem move_sound {av am v m p x : BitVec 64} (hp : Has av am p) (g : Nat → Option Nat) (hg : ∀ i j, g i = some j → j < 64)
    (h : ∀ i, i < 64 → bitT v m i = match g i with | some j => bitT av am j | none => 0) (hx : ∀ i, i < 64 → x.getLsbD i = match g i with | some j => p.getLsbD j | none => false) : Has v m x := has_bits.2 fun i hi hb => by
  rw [h i hi] at hb ⊢
  rw [hx i hi]
  cases e : g i with
  | none => rfl
  | some j => rw [e] at hb; exact has_bits.1 hp j (hg i j e) hb

/-! ### Rows of numbers: what lies between two numbers that have their upper bits in common has them, too -/
theorem between {lo x hi : BitVec 64} (n : Nat) (h1 : lo.toNat ≤ x.toNat) (h2 : x.toNat ≤ hi.toNat) (e : lo.toNat / 2 ^ n = hi.toNat / 2 ^ n) (i : Nat) (hi' : n ≤ i) : x.getLsbD i = lo.getLsbD i := by
  have e2 : x.toNat / 2 ^ n = lo.toNat / 2 ^ n := Nat.le_antisymm (by rw [e]; exact Nat.div_le_div_right h2) (Nat.div_le_div_right h1)
  have k : ∀ y : BitVec 64, y.getLsbD i = (y.toNat / 2 ^ n).testBit (i - n) := fun y => by
    rw [Nat.testBit_div_two_pow]
    show y.toNat.testBit i = _
    rw [show i - n + n = i by omega]
  rw [k x, k lo, e2]

/-! ### Nothing added, nothing taken away; either way about -/
theorem addU_comm (av am bv bm : BitVec 64) : addU av am bv bm = addU bv bm av am := by
  unfold addU
  rw [BitVec.add_comm am bm, BitVec.add_comm av bv, BitVec.or_assoc, BitVec.or_assoc, BitVec.or_comm am bm]
theorem addV_comm (av am bv bm : BitVec 64) : addV av am bv bm = addV bv bm av am := by
  unfold addV
  rw [addU_comm, BitVec.add_comm]
theorem cut_self {v m : BitVec 64} (o : Ok v m) : v &&& ~~~m = v := by
  apply BitVec.eq_of_getLsbD_eq
  intro i hi
  rw [BitVec.getLsbD_and, BitVec.getLsbD_not]
  cases hm : m.getLsbD i
  · simp [hi]
  · rw [o i hi hm]; rfl
theorem xor_or_self (v m : BitVec 64) : (v ||| m) ^^^ v ||| m = m := by
  apply BitVec.eq_of_getLsbD_eq
  intro i hi
  rw [BitVec.getLsbD_or, BitVec.getLsbD_xor, BitVec.getLsbD_or]
  cases hm : m.getLsbD i
  · simp
  · simp
theorem addU_zero {v m : BitVec 64} (o : Ok v m) : addU v m 0#64 0#64 = m := by
  unfold addU
  rw [BitVec.add_zero, BitVec.add_zero, BitVec.or_zero, BitVec.add_comm, BitVec.add_eq_or_of_and_eq_zero v m (ok_and o), xor_or_self]
theorem addV_zero_right {v m : BitVec 64} (o : Ok v m) : addV v m 0#64 0#64 = v := by
  unfold addV
  rw [addU_zero o, BitVec.add_zero, cut_self o]
theorem subU_zero {v m : BitVec 64} (o : Ok v m) : subU v m 0#64 0#64 = m := by
  unfold subU
  rw [BitVec.sub_zero, BitVec.sub_zero, BitVec.or_zero, BitVec.add_eq_or_of_and_eq_zero v m (ok_and o), xor_or_self]
theorem subV_zero {v m : BitVec 64} (o : Ok v m) : subV v m 0#64 0#64 = v := by
  unfold subV
  rw [subU_zero o, BitVec.sub_zero, cut_self o]
theorem mulM_zero_right (av am : BitVec 64) : ∀ k, mulM av am 0#64 0#64 k = 0#64
  | 0 => rfl
  | k + 1 => by simp [mulM, mulM_zero_right av am k, addU]
theorem mulM_zero_left (bv bm : BitVec 64) : ∀ k, mulM 0#64 0#64 bv bm k = 0#64
  | 0 => rfl
  | k + 1 => by simp [mulM, mulM_zero_left bv bm k]
theorem mulM_const (v w : BitVec 64) : ∀ k, mulM v 0#64 w 0#64 k = 0#64
  | 0 => rfl
  | k + 1 => by simp [mulM, mulM_const v w k, addU]
/-! ### All numbers of a set, as a loop over the places lists them -/
def allL (v m : BitVec 64) : Nat → List (BitVec 64)
  | 0 => [v]
  | k + 1 => if m.getLsbD k then allL v m k ++ (allL v m k).map (fun x => x ||| (1#64 <<< k)) else allL v m k
theorem all_head (v m : BitVec 64) : ∀ k, ∃ l, allL v m k = v :: l
  | 0 => ⟨[], rfl⟩
  | k + 1 => by
    obtain ⟨l, e⟩ := all_head v m k
    unfold allL
    split
    · exact ⟨_, by rw [e, List.cons_append]⟩
    · exact ⟨l, e⟩
theorem all_has (v m : BitVec 64) : ∀ k, ∀ x ∈ allL v m k, Has v m x
  | 0, x, hx => by
    rw [allL, List.mem_singleton] at hx
    rw [hx]; exact has_self _ _
  | k + 1, x, hx => by
    unfold allL at hx
    split at hx
    · rename_i hk
      rcases List.mem_append.1 hx with hx | hx
      · exact all_has v m k x hx
      · obtain ⟨y, hy, rfl⟩ := List.mem_map.1 hx
        intro i hi hm
        have : i ≠ k := fun e => by rw [e, hk] at hm; cases hm
        rw [BitVec.getLsbD_or, one_shl, all_has v m k y hy i hi hm]
        simp [this]
    · exact all_has v m k x hx
theorem all_mem (v m x : BitVec 64) : ∀ k, v ||| accB (fun i => x.getLsbD i && m.getLsbD i) k ∈ allL v m k
  | 0 => by simp [allL, accB]
  | k + 1 => by
    have ih := all_mem v m x k
    unfold allL accB
    cases hm : m.getLsbD k
    · simpa using ih
    · cases hx : x.getLsbD k
      · simp only [Bool.false_and, Bool.false_eq_true, if_false, if_true]
        exact List.mem_append.2 (Or.inl ih)
      · simp only [Bool.and_self, if_true]
        rw [← BitVec.or_assoc]
        exact List.mem_append.2 (Or.inr (List.mem_map.2 ⟨_, ih, rfl⟩))
theorem all_iff {v m : BitVec 64} (o : Ok v m) (x : BitVec 64) : x ∈ allL v m 64 ↔ Has v m x := by
  constructor
  · exact all_has v m 64 x
  · intro h
    have := all_mem v m x 64
    rw [acc_eq (x := x &&& m) (fun i hi => by rw [BitVec.getLsbD_and])] at this
    have e : v ||| (x &&& m) = x := by
      apply BitVec.eq_of_getLsbD_eq
      intro i hi
      rw [BitVec.getLsbD_or, BitVec.getLsbD_and]
      cases hm : m.getLsbD i
      · rw [h i hi hm]; simp
      · rw [o i hi hm]; simp
    rw [e] at this
    exact this

/-- All answers of two sets, in the order of two loops. -/
def pairs (op : BitVec 64 → BitVec 64 → BitVec 64) (l l' : List (BitVec 64)) : List (BitVec 64) := l.flatMap fun p => l'.map fun q => op p q
theorem pairs_head (op : BitVec 64 → BitVec 64 → BitVec 64) (x : BitVec 64) (l : List (BitVec 64)) (y : BitVec 64) (l' : List (BitVec 64)) : ∃ r, pairs op (x :: l) (y :: l') = op x y :: r := by
  unfold pairs
  rw [List.flatMap_cons, List.map_cons, List.cons_append]
  exact ⟨_, rfl⟩
theorem pairs_mem (op : BitVec 64 → BitVec 64 → BitVec 64) (l l' : List (BitVec 64)) (x : BitVec 64) : x ∈ pairs op l l' ↔ ∃ p q, p ∈ l ∧ q ∈ l' ∧ x = op p q := by
  unfold pairs
  rw [List.mem_flatMap]
  constructor
  · rintro ⟨p, hp, hx⟩
    obtain ⟨q, hq, rfl⟩ := List.mem_map.1 hx
    exact ⟨p, q, hp, hq, rfl⟩
  · rintro ⟨p, q, hp, hq, rfl⟩
    exact ⟨p, hp, List.mem_map.2 ⟨q, hq, rfl⟩⟩
/-- The least set of all answers is one that has all of them, and of which each unknown bit is one in which an answer differs from the first one. -/
theorem least_pairs (op : BitVec 64 → BitVec 64 → BitVec 64) {av am bv bm v m : BitVec 64} (oa : Ok av am) (ob : Ok bv bm) (o : Ok v m) (hs : ∀ p q, Has av am p → Has bv bm q → Has v m (op p q))
    (hex : ∀ i, i < 64 → m.getLsbD i = true → ∃ p q, Has av am p ∧ Has bv bm q ∧ (op p q).getLsbD i ≠ (op av bv).getLsbD i) : ∃ r, pairs op (allL av am 64) (allL bv bm 64) = op av bv :: r ∧ leastM (op av bv) 0#64 r = (v, m) := by
  obtain ⟨l, e⟩ := all_head av am 64
  obtain ⟨l', e'⟩ := all_head bv bm 64
  obtain ⟨r, er⟩ := pairs_head op av l bv l'
  have hm : ∀ x, x ∈ op av bv :: r ↔ ∃ p q, Has av am p ∧ Has bv bm q ∧ x = op p q := fun x => by
    rw [← er, ← e, ← e', pairs_mem]
    constructor
    · rintro ⟨p, q, hp, hq, h⟩
      exact ⟨p, q, (all_iff oa p).1 hp, (all_iff ob q).1 hq, h⟩
    · rintro ⟨p, q, hp, hq, h⟩
      exact ⟨p, q, (all_iff oa p).2 hp, (all_iff ob q).2 hq, h⟩
  refine ⟨r, by rw [e, e', er], least_eq o (fun x hx => ?_) (fun i hi h => ?_)⟩
  · obtain ⟨p, q, hp, hq, rfl⟩ := (hm x).1 hx
    exact hs p q hp hq
  · obtain ⟨p, q, hp, hq, hne⟩ := hex i hi h
    exact ⟨op p q, (hm _).2 ⟨p, q, hp, hq, rfl⟩, hne⟩
theorem add_least {av am bv bm : BitVec 64} (oa : Ok av am) (ob : Ok bv bm) : ∃ r, pairs (· + ·) (allL av am 64) (allL bv bm 64) = (av + bv) :: r ∧ leastM (av + bv) 0#64 r = (addV av am bv bm, addU av am bv bm) :=
  least_pairs (· + ·) oa ob (ok_cut _ _) (fun p q hp hq => add_sound oa ob hp hq) (fun i hi h => add_exact oa ob hi h)
theorem sub_least {av am bv bm : BitVec 64} (oa : Ok av am) (ob : Ok bv bm) : ∃ r, pairs (· - ·) (allL av am 64) (allL bv bm 64) = (av - bv) :: r ∧ leastM (av - bv) 0#64 r = (subV av am bv bm, subU av am bv bm) :=
  least_pairs (· - ·) oa ob (ok_cut _ _) (fun p q hp hq => sub_sound oa ob hp hq) (fun i hi h => sub_exact oa ob hi h)

/-! Bits taken together: each unknown bit of the answer hangs on one bit of either. -/
/-- The number of a set that has this bit at the place i, and else the set's own. -/
theorem pick_bit {v m : BitVec 64} (o : Ok v m) {i : Nat} (hi : i < 64) (b : Bool) (h : bitT v m i = 2 ∨ bitT v m i = b.toNat) : ∃ p, Has v m p ∧ p.getLsbD i = b := by
  unfold bitT at h
  cases hm : m.getLsbD i
  · rw [hm] at h
    refine ⟨v, has_self _ _, ?_⟩
    cases hv : v.getLsbD i <;> cases b <;> simp_all
  · cases b
    · exact ⟨v, has_self _ _, o i hi hm⟩
    · exact ⟨v ||| BitVec.twoPow 64 i, has_one hm, bit_one _ hi⟩
theorem bits_exact (op : BitVec 64 → BitVec 64 → BitVec 64) (ob2 : Bool → Bool → Bool) (hop : ∀ x y i, i < 64 → (op x y).getLsbD i = ob2 (x.getLsbD i) (y.getLsbD i)) {av am bv bm : BitVec 64} (oa : Ok av am) (ob : Ok bv bm) {i : Nat} (hi : i < 64)
    (h : ∃ s t s' t' : Bool, (bitT av am i = 2 ∨ bitT av am i = s.toNat) ∧ (bitT bv bm i = 2 ∨ bitT bv bm i = t.toNat) ∧ (bitT av am i = 2 ∨ bitT av am i = s'.toNat) ∧ (bitT bv bm i = 2 ∨ bitT bv bm i = t'.toNat) ∧ ob2 s t ≠ ob2 s' t') :
    ∃ p q, Has av am p ∧ Has bv bm q ∧ (op p q).getLsbD i ≠ (op av bv).getLsbD i := by
  obtain ⟨s, t, s', t', h1, h2, h3, h4, hne⟩ := h
  obtain ⟨p, hp, ep⟩ := pick_bit oa hi s h1
  obtain ⟨q, hq, eq⟩ := pick_bit ob hi t h2
  obtain ⟨p', hp', ep'⟩ := pick_bit oa hi s' h3
  obtain ⟨q', hq', eq'⟩ := pick_bit ob hi t' h4
  by_cases e : (op p q).getLsbD i = (op av bv).getLsbD i
  · refine ⟨p', q', hp', hq', fun e' => hne ?_⟩
    rw [← e, hop _ _ _ hi, hop _ _ _ hi, ep, eq, ep', eq'] at e'
    exact e'.symm
  · exact ⟨p, q, hp, hq, e⟩
theorem and_two (x y : Nat) (hx : x ≤ 2) (hy : y ≤ 2) : andF x y = 2 → ∃ s t s' t' : Bool, (x = 2 ∨ x = s.toNat) ∧ (y = 2 ∨ y = t.toNat) ∧ (x = 2 ∨ x = s'.toNat) ∧ (y = 2 ∨ y = t'.toNat) ∧ (s && t) ≠ (s' && t') := by
  rcases (by omega : x = 0 ∨ x = 1 ∨ x = 2) with rfl | rfl | rfl <;> rcases (by omega : y = 0 ∨ y = 1 ∨ y = 2) with rfl | rfl | rfl <;> decide
theorem or_two (x y : Nat) (hx : x ≤ 2) (hy : y ≤ 2) : orF x y = 2 → ∃ s t s' t' : Bool, (x = 2 ∨ x = s.toNat) ∧ (y = 2 ∨ y = t.toNat) ∧ (x = 2 ∨ x = s'.toNat) ∧ (y = 2 ∨ y = t'.toNat) ∧ (s || t) ≠ (s' || t') := by
  rcases (by omega : x = 0 ∨ x = 1 ∨ x = 2) with rfl | rfl | rfl <;> rcases (by omega : y = 0 ∨ y = 1 ∨ y = 2) with rfl | rfl | rfl <;> decide
theorem xor_two (x y : Nat) (hx : x ≤ 2) (hy : y ≤ 2) : xorF x y = 2 → ∃ s t s' t' : Bool, (x = 2 ∨ x = s.toNat) ∧ (y = 2 ∨ y = t.toNat) ∧ (x = 2 ∨ x = s'.toNat) ∧ (y = 2 ∨ y = t'.toNat) ∧ (s ^^ t) ≠ (s' ^^ t') := by
  rcases (by omega : x = 0 ∨ x = 1 ∨ x = 2) with rfl | rfl | rfl <;> rcases (by omega : y = 0 ∨ y = 1 ∨ y = 2) with rfl | rfl | rfl <;> decide
theorem bit_two {v m : BitVec 64} {i : Nat} (h : m.getLsbD i = true) : bitT v m i = 2 := by unfold bitT; rw [h]; rfl
theorem and_least {av am bv bm v m : BitVec 64} (oa : Ok av am) (ob : Ok bv bm) (o : Ok v m) (h : ∀ i, i < 64 → bitT v m i = andF (bitT av am i) (bitT bv bm i)) : ∃ r, pairs (· &&& ·) (allL av am 64) (allL bv bm 64) = (av &&& bv) :: r ∧ leastM (av &&& bv) 0#64 r = (v, m) :=
  least_pairs (· &&& ·) oa ob o (fun p q hp hq => and_sound hp hq h) fun i hi hm => bits_exact (· &&& ·) (· && ·) (fun x y i hi => BitVec.getLsbD_and) oa ob hi (and_two _ _ (bitT_le _ _ _) (bitT_le _ _ _) (by rw [← h i hi]; exact bit_two hm))
theorem or_least {av am bv bm v m : BitVec 64} (oa : Ok av am) (ob : Ok bv bm) (o : Ok v m) (h : ∀ i, i < 64 → bitT v m i = orF (bitT av am i) (bitT bv bm i)) : ∃ r, pairs (· ||| ·) (allL av am 64) (allL bv bm 64) = (av ||| bv) :: r ∧ leastM (av ||| bv) 0#64 r = (v, m) :=
  least_pairs (· ||| ·) oa ob o (fun p q hp hq => or_sound hp hq h) fun i hi hm => bits_exact (· ||| ·) (· || ·) (fun x y i hi => BitVec.getLsbD_or) oa ob hi (or_two _ _ (bitT_le _ _ _) (bitT_le _ _ _) (by rw [← h i hi]; exact bit_two hm))
theorem xor_least {av am bv bm v m : BitVec 64} (oa : Ok av am) (ob : Ok bv bm) (o : Ok v m) (h : ∀ i, i < 64 → bitT v m i = xorF (bitT av am i) (bitT bv bm i)) : ∃ r, pairs (· ^^^ ·) (allL av am 64) (allL bv bm 64) = (av ^^^ bv) :: r ∧ leastM (av ^^^ bv) 0#64 r = (v, m) :=
  least_pairs (· ^^^ ·) oa ob o (fun p q hp hq => xor_sound hp hq h) fun i hi hm => bits_exact (· ^^^ ·) (· ^^ ·) (fun x y i hi => BitVec.getLsbD_xor) oa ob hi (xor_two _ _ (bitT_le _ _ _) (bitT_le _ _ _) (by rw [← h i hi]; exact bit_two hm))
theorem join_least {av am bv bm v m : BitVec 64} (oa : Ok av am) (ob : Ok bv bm) (o : Ok v m) (h : ∀ i, i < 64 → bitT v m i = joinF (bitT av am i) (bitT bv bm i)) : ∃ r, allL av am 64 ++ allL bv bm 64 = av :: r ∧ leastM av 0#64 r = (v, m) := by
  obtain ⟨l, e⟩ := all_head av am 64
  refine ⟨l ++ allL bv bm 64, by rw [e, List.cons_append], ?_⟩
  have hm : ∀ x, x ∈ av :: (l ++ allL bv bm 64) ↔ Has av am x ∨ Has bv bm x := fun x => by
    rw [← List.cons_append, ← e, List.mem_append, all_iff oa, all_iff ob]
  refine least_eq o (fun x hx => ?_) (fun i hi hmi => ?_)
  · rcases (hm x).1 hx with hx | hx
    · exact join_left hx h
    · exact join_right hx h
  · have e2 : joinF (bitT av am i) (bitT bv bm i) = 2 := by rw [← h i hi]; exact bit_two hmi
    have two : ∃ b : Bool, b ≠ av.getLsbD i ∧ ((bitT av am i = 2 ∨ bitT av am i = b.toNat) ∨ (bitT bv bm i = 2 ∨ bitT bv bm i = b.toNat)) := by
      refine ⟨!av.getLsbD i, by cases av.getLsbD i <;> decide, ?_⟩
      by_cases ha : bitT av am i = 2
      · exact Or.inl (Or.inl ha)
      · have ha2 : bitT av am i = (av.getLsbD i).toNat := has_bits.1 (has_self av am) i hi ha
        unfold joinF at e2
        split at e2
        · exact Or.inl (Or.inl e2)
        · rename_i hne
          have := bitT_le bv bm i
          rw [ha2] at hne
          cases hv : av.getLsbD i <;> rw [hv] at hne <;> simp at hne ⊢ <;> omega
    obtain ⟨b, hb, hc⟩ := two
    rcases hc with hc | hc
    · obtain ⟨p, hp, ep⟩ := pick_bit oa hi b hc
      exact ⟨p, (hm p).2 (Or.inl hp), by rw [ep]; exact hb⟩
    · obtain ⟨p, hp, ep⟩ := pick_bit ob hi b hc
      exact ⟨p, (hm p).2 (Or.inr hp), by rw [ep]; exact hb⟩
end Tn
end Go.Proofs.YtekenpgagfmgkaaGreat.Tn
