/- Towards the statements of package alu (layer 2): of two numbers just one holds of being the same, below, above, with a sign and without; what turned codes and contraries ask. -/
import Derived.Test.YtmngficbohlnhaaRules
namespace Go.Proofs.Ytmngficbohlnhaa
open Go.ChangeShapes Go.WideShapes Go.ChangeAt Go.RowKit
set_option linter.unusedVariables false

theorem and_comm64 (x y : Int) (hx : 0 ≤ x ∧ x ≤ 18446744073709551615) (hy : 0 ≤ y ∧ y ≤ 18446744073709551615) : bits .and .u64 x y = bits .and .u64 y x := by
  rw [and_nat x y hx hy, and_nat y x hy hx, Nat.and_comm]
theorem and_one (x : Int) (hx : 0 ≤ x ∧ x ≤ 18446744073709551615) : bits .and .u64 x 1 = x % 2 := by
  rw [and_nat x 1 hx (by omega)]
  have e : x.toNat &&& (1 : Int).toNat = x.toNat % 2 := Nat.and_two_pow_sub_one_eq_mod x.toNat 1
  rw [e]; omega

structure TurnFacts (c : Int) : Prop where
  pos : 0 ≤ turnV c
  err : errA c = 0
  back : turnV (turnV c) = c
  same : ∀ wd a b, asksV wd (turnV c) b a = asksV wd c a b
structure OtherFacts (c : Int) : Prop where
  pos : 0 ≤ otherV c
  err : errA c = 0
  back : otherV (otherV c) = c
  not : ∀ wd a b, asksV wd (otherV c) a b = !asksV wd c a b

theorem turn_cases (c : Int) (h : isturn c = true) : c = 1 ∨ c = 2 ∨ c = 3 ∨ c = 4 ∨ c = 5 ∨ c = 6 ∨ c = 7 ∨ c = 10 ∨ c = 11 ∨ c = 12 ∨ c = 13 :=
  Classical.byContradiction fun hn => by
    simp only [not_or] at hn
    have : isturn c = false := by simp [isturn, hn]
    rw [this] at h
    cases h
theorem other_cases (c : Int) (h : isother c = true) : c = 1 ∨ c = 2 ∨ c = 3 ∨ c = 5 ∨ c = 6 ∨ c = 7 ∨ c = 10 ∨ c = 11 ∨ c = 12 ∨ c = 13 :=
  Classical.byContradiction fun hn => by
    simp only [not_or] at hn
    have : isother c = false := by simp [isother, hn]
    rw [this] at h
    cases h
theorem turn_facts (c : Int) (h : isturn c = true) : TurnFacts c := by
  rcases turn_cases c h with rfl | rfl | rfl | rfl | rfl | rfl | rfl | rfl | rfl | rfl | rfl
  · exact ⟨by decide, rfl, rfl, fun wd a b => by show (_ == _) = (_ == _); exact Bool.eq_iff_iff.2 (by simp only [beq_iff_eq]; exact eq_comm)⟩
  · exact ⟨by decide, rfl, rfl, fun wd a b => rfl⟩
  · exact ⟨by decide, rfl, rfl, fun wd a b => rfl⟩
  · exact ⟨by decide, rfl, rfl, fun wd a b => by show (bits .and .u64 (lowV b (sz wd)) (lowV a (sz wd)) != 0) = (bits .and .u64 (lowV a (sz wd)) (lowV b (sz wd)) != 0); rw [and_comm64 _ _ (low_bd wd b) (low_bd wd a)]⟩
  · exact ⟨by decide, rfl, rfl, fun wd a b => by show (_ != _) = (_ != _); exact Bool.eq_iff_iff.2 (by simp only [bne_iff_ne]; exact ne_comm)⟩
  · exact ⟨by decide, rfl, rfl, fun wd a b => rfl⟩
  · exact ⟨by decide, rfl, rfl, fun wd a b => rfl⟩
  · exact ⟨by decide, rfl, rfl, fun wd a b => rfl⟩
  · exact ⟨by decide, rfl, rfl, fun wd a b => rfl⟩
  · exact ⟨by decide, rfl, rfl, fun wd a b => rfl⟩
  · exact ⟨by decide, rfl, rfl, fun wd a b => rfl⟩
theorem other_facts (c : Int) (h : isother c = true) : OtherFacts c := by
  rcases other_cases c h with rfl | rfl | rfl | rfl | rfl | rfl | rfl | rfl | rfl | rfl
  · exact ⟨by decide, rfl, rfl, fun wd a b => rfl⟩
  · exact ⟨by decide, rfl, rfl, fun wd a b => rfl⟩
  · exact ⟨by decide, rfl, rfl, fun wd a b => (Bool.not_not _).symm⟩
  · exact ⟨by decide, rfl, rfl, fun wd a b => (Bool.not_not _).symm⟩
  · exact ⟨by decide, rfl, rfl, fun wd a b => rfl⟩
  · exact ⟨by decide, rfl, rfl, fun wd a b => (Bool.not_not _).symm⟩
  · exact ⟨by decide, rfl, rfl, fun wd a b => rfl⟩
  · exact ⟨by decide, rfl, rfl, fun wd a b => (Bool.not_not _).symm⟩
  · exact ⟨by decide, rfl, rfl, fun wd a b => rfl⟩
  · exact ⟨by decide, rfl, rfl, fun wd a b => (Bool.not_not _).symm⟩

/-- What is known of two numbers: the same, below, above; with a sign; and whether their highest bits are the same. -/
structure Ord5 (wd : Bool) (h a b : Int) (x0 x1 x2 x3 x4 x5 : Bool) : Prop where
  eq : asksV wd 1 a b = x0
  lt : asksV wd 10 a b = x1
  gt : asksV wd 2 a b = x2
  slt : asksV wd 12 a b = x3
  sgt : asksV wd 6 a b = x4
  same : (bits .and .u64 (a / h) 1 == bits .and .u64 (b / h) 1) = x5
  diff : (bits .and .u64 (a / h) 1 != bits .and .u64 (b / h) 1) = !x5

theorem ord_false (a b : Int) (ha : 0 ≤ a ∧ a ≤ 18446744073709551615) (hb : 0 ≤ b ∧ b ≤ 18446744073709551615) :
    Ord5 false 2147483648 a b true false false false false true ∨ Ord5 false 2147483648 a b false true false true false true ∨ Ord5 false 2147483648 a b false false true false true true ∨
    Ord5 false 2147483648 a b false true false false true false ∨ Ord5 false 2147483648 a b false false true true false false := by
  have e1 : asksV false 1 a b = (a % 4294967296 == b % 4294967296) := by show (lowV a 4 == lowV b 4) = _; rw [lowV4, lowV4]
  have e10 : asksV false 10 a b = decide (a % 4294967296 < b % 4294967296) := by show decide (lowV a 4 < lowV b 4) = _; rw [lowV4, lowV4]
  have e2 : asksV false 2 a b = decide (b % 4294967296 < a % 4294967296) := by show decide (lowV b 4 < lowV a 4) = _; rw [lowV4, lowV4]
  have e12 : asksV false 12 a b = decide (signV (a % 4294967296) 4 < signV (b % 4294967296) 4) := by show decide (signV (lowV a 4) 4 < signV (lowV b 4) 4) = _; rw [lowV4, lowV4]
  have e6 : asksV false 6 a b = decide (signV (b % 4294967296) 4 < signV (a % 4294967296) 4) := by show decide (signV (lowV b 4) 4 < signV (lowV a 4) 4) = _; rw [lowV4, lowV4]
  rw [signV4, signV4] at e12 e6
  have p1 := and_one (a / 2147483648) (by omega)
  have p2 := and_one (b / 2147483648) (by omega)
  obtain ⟨P, hP⟩ : ∃ P, bits .and .u64 (a / 2147483648) 1 = P := ⟨_, rfl⟩
  obtain ⟨Q, hQ⟩ : ∃ Q, bits .and .u64 (b / 2147483648) 1 = Q := ⟨_, rfl⟩
  rw [hP] at p1
  rw [hQ] at p2
  have five : (a % 4294967296 = b % 4294967296 ∧ P = Q) ∨ (a % 4294967296 < b % 4294967296 ∧ P = Q) ∨ (b % 4294967296 < a % 4294967296 ∧ P = Q) ∨ (a % 4294967296 < b % 4294967296 ∧ P ≠ Q) ∨ (b % 4294967296 < a % 4294967296 ∧ P ≠ Q) := by omega
  rcases five with ⟨q, r⟩ | ⟨q, r⟩ | ⟨q, r⟩ | ⟨q, r⟩ | ⟨q, r⟩
  · exact Or.inl ⟨by rw [e1]; rw [q, beq_self_eq_true], by rw [e10]; exact decide_eq_false (by omega), by rw [e2]; exact decide_eq_false (by omega), by rw [e12]; exact decide_eq_false (by split <;> split <;> omega), by rw [e6]; exact decide_eq_false (by split <;> split <;> omega), by rw [hP, hQ, r, beq_self_eq_true], by rw [hP, hQ, r]; exact bne_self_eq_false _⟩
  · exact Or.inr (Or.inl ⟨by rw [e1]; exact beq_eq_false_iff_ne.2 (by omega), by rw [e10]; exact decide_eq_true (by omega), by rw [e2]; exact decide_eq_false (by omega), by rw [e12]; exact decide_eq_true (by split <;> split <;> omega), by rw [e6]; exact decide_eq_false (by split <;> split <;> omega), by rw [hP, hQ, r, beq_self_eq_true], by rw [hP, hQ, r]; exact bne_self_eq_false _⟩)
  · exact Or.inr (Or.inr (Or.inl ⟨by rw [e1]; exact beq_eq_false_iff_ne.2 (by omega), by rw [e10]; exact decide_eq_false (by omega), by rw [e2]; exact decide_eq_true (by omega), by rw [e12]; exact decide_eq_false (by split <;> split <;> omega), by rw [e6]; exact decide_eq_true (by split <;> split <;> omega), by rw [hP, hQ, r, beq_self_eq_true], by rw [hP, hQ, r]; exact bne_self_eq_false _⟩))
  · exact Or.inr (Or.inr (Or.inr (Or.inl ⟨by rw [e1]; exact beq_eq_false_iff_ne.2 (by omega), by rw [e10]; exact decide_eq_true (by omega), by rw [e2]; exact decide_eq_false (by omega), by rw [e12]; exact decide_eq_false (by split <;> split <;> omega), by rw [e6]; exact decide_eq_true (by split <;> split <;> omega), by rw [hP, hQ]; exact beq_eq_false_iff_ne.2 r, by rw [hP, hQ]; exact bne_iff_ne.2 r⟩)))
  · exact Or.inr (Or.inr (Or.inr (Or.inr ⟨by rw [e1]; exact beq_eq_false_iff_ne.2 (by omega), by rw [e10]; exact decide_eq_false (by omega), by rw [e2]; exact decide_eq_true (by omega), by rw [e12]; exact decide_eq_true (by split <;> split <;> omega), by rw [e6]; exact decide_eq_false (by split <;> split <;> omega), by rw [hP, hQ]; exact beq_eq_false_iff_ne.2 r, by rw [hP, hQ]; exact bne_iff_ne.2 r⟩)))
theorem ord_true (a b : Int) (ha : 0 ≤ a ∧ a ≤ 18446744073709551615) (hb : 0 ≤ b ∧ b ≤ 18446744073709551615) :
    Ord5 true 9223372036854775808 a b true false false false false true ∨ Ord5 true 9223372036854775808 a b false true false true false true ∨ Ord5 true 9223372036854775808 a b false false true false true true ∨
    Ord5 true 9223372036854775808 a b false true false false true false ∨ Ord5 true 9223372036854775808 a b false false true true false false := by
  have e1 : asksV true 1 a b = (a % 18446744073709551616 == b % 18446744073709551616) := by show (lowV a 8 == lowV b 8) = _; rw [lowV8, lowV8]
  have e10 : asksV true 10 a b = decide (a % 18446744073709551616 < b % 18446744073709551616) := by show decide (lowV a 8 < lowV b 8) = _; rw [lowV8, lowV8]
  have e2 : asksV true 2 a b = decide (b % 18446744073709551616 < a % 18446744073709551616) := by show decide (lowV b 8 < lowV a 8) = _; rw [lowV8, lowV8]
  have e12 : asksV true 12 a b = decide (signV (a % 18446744073709551616) 8 < signV (b % 18446744073709551616) 8) := by show decide (signV (lowV a 8) 8 < signV (lowV b 8) 8) = _; rw [lowV8, lowV8]
  have e6 : asksV true 6 a b = decide (signV (b % 18446744073709551616) 8 < signV (a % 18446744073709551616) 8) := by show decide (signV (lowV b 8) 8 < signV (lowV a 8) 8) = _; rw [lowV8, lowV8]
  rw [signV8, signV8] at e12 e6
  have p1 := and_one (a / 9223372036854775808) (by omega)
  have p2 := and_one (b / 9223372036854775808) (by omega)
  obtain ⟨P, hP⟩ : ∃ P, bits .and .u64 (a / 9223372036854775808) 1 = P := ⟨_, rfl⟩
  obtain ⟨Q, hQ⟩ : ∃ Q, bits .and .u64 (b / 9223372036854775808) 1 = Q := ⟨_, rfl⟩
  rw [hP] at p1
  rw [hQ] at p2
  have five : (a % 18446744073709551616 = b % 18446744073709551616 ∧ P = Q) ∨ (a % 18446744073709551616 < b % 18446744073709551616 ∧ P = Q) ∨ (b % 18446744073709551616 < a % 18446744073709551616 ∧ P = Q) ∨ (a % 18446744073709551616 < b % 18446744073709551616 ∧ P ≠ Q) ∨ (b % 18446744073709551616 < a % 18446744073709551616 ∧ P ≠ Q) := by omega
  rcases five with ⟨q, r⟩ | ⟨q, r⟩ | ⟨q, r⟩ | ⟨q, r⟩ | ⟨q, r⟩
  · exact Or.inl ⟨by rw [e1]; rw [q, beq_self_eq_true], by rw [e10]; exact decide_eq_false (by omega), by rw [e2]; exact decide_eq_false (by omega), by rw [e12]; exact decide_eq_false (by split <;> split <;> omega), by rw [e6]; exact decide_eq_false (by split <;> split <;> omega), by rw [hP, hQ, r, beq_self_eq_true], by rw [hP, hQ, r]; exact bne_self_eq_false _⟩
  · exact Or.inr (Or.inl ⟨by rw [e1]; exact beq_eq_false_iff_ne.2 (by omega), by rw [e10]; exact decide_eq_true (by omega), by rw [e2]; exact decide_eq_false (by omega), by rw [e12]; exact decide_eq_true (by split <;> split <;> omega), by rw [e6]; exact decide_eq_false (by split <;> split <;> omega), by rw [hP, hQ, r, beq_self_eq_true], by rw [hP, hQ, r]; exact bne_self_eq_false _⟩)
  · exact Or.inr (Or.inr (Or.inl ⟨by rw [e1]; exact beq_eq_false_iff_ne.2 (by omega), by rw [e10]; exact decide_eq_false (by omega), by rw [e2]; exact decide_eq_true (by omega), by rw [e12]; exact decide_eq_false (by split <;> split <;> omega), by rw [e6]; exact decide_eq_true (by split <;> split <;> omega), by rw [hP, hQ, r, beq_self_eq_true], by rw [hP, hQ, r]; exact bne_self_eq_false _⟩))
  · exact Or.inr (Or.inr (Or.inr (Or.inl ⟨by rw [e1]; exact beq_eq_false_iff_ne.2 (by omega), by rw [e10]; exact decide_eq_true (by omega), by rw [e2]; exact decide_eq_false (by omega), by rw [e12]; exact decide_eq_false (by split <;> split <;> omega), by rw [e6]; exact decide_eq_true (by split <;> split <;> omega), by rw [hP, hQ]; exact beq_eq_false_iff_ne.2 r, by rw [hP, hQ]; exact bne_iff_ne.2 r⟩)))
  · exact Or.inr (Or.inr (Or.inr (Or.inr ⟨by rw [e1]; exact beq_eq_false_iff_ne.2 (by omega), by rw [e10]; exact decide_eq_false (by omega), by rw [e2]; exact decide_eq_true (by omega), by rw [e12]; exact decide_eq_true (by split <;> split <;> omega), by rw [e6]; exact decide_eq_false (by split <;> split <;> omega), by rw [hP, hQ]; exact beq_eq_false_iff_ne.2 r, by rw [hP, hQ]; exact bne_iff_ne.2 r⟩)))
end Go.Proofs.Ytmngficbohlnhaa
