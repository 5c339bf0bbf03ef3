/- Towards the statement AluAsks of package alu (layer 2): its walk, for 32 bits, by how the two numbers stand and by what the code has. -/
import Derived.Test.YtmngficbohlnhaaOrder
namespace Go.Proofs.Ytmngficbohlnhaa
open Go.ChangeShapes Go.WideShapes Go.ChangeAt Go.RowKit
set_option linter.unusedVariables false

set_option maxRecDepth 100000 in
set_option maxHeartbeats 4000000 in
theorem ask_false_0_0 (c a b : Int) (hc : 0 ≤ c) (ha : 0 ≤ a ∧ a ≤ 18446744073709551615) (hb : 0 ≤ b ∧ b ≤ 18446744073709551615) (hd : Ord5 false 2147483648 a b true false false false false true) (t : isturn c = true) (u : isother c = true) (w : World) :
    Calls Try.prog 6 #[.int .u8 c, .bool false, .int .u64 a, .int .u64 b] w fun e w' => e = .returned (.bool true) ∧ Grown w w' := by
  have HG : Gr w w := Gr.refl w
  obtain ⟨q1, q2, q3, q4, q5, q6, q7⟩ := hd
  simp only [Bool.not_true] at q7
  obtain ⟨t0, t1, t2, t3⟩ := turn_facts c t
  have k1 : (errA c != 0) = false := by rw [t1, bne_self_eq_false]
  have k2 : asksV false (turnV c) b a = asksV false c a b := t3 _ a b
  have k3 : (turnV (turnV c) != c) = false := by rw [t2, bne_self_eq_false]
  clear t1 t2 t3
  obtain ⟨u0, u1, u2, u3⟩ := other_facts c u
  have k4 : (errA c == 0) = true := by rw [u1, beq_self_eq_true]
  have k5 : asksV false (otherV c) a b = !asksV false c a b := u3 _ a b
  have k6 : (otherV (otherV c) == c) = true := by rw [u2, beq_self_eq_true]
  clear u1 u2 u3
  go_enter Try.func6, Try.ntmps6
  go_wp2_with (first
    | (go_at_call 10; refine (asks_any _ _ _ _ (by first | assumption | omega) (by assumption) (by assumption) _).mono ?_; rintro e w' ⟨rfl, hg⟩; replace HG := HG.trans hg; clear hg)
    | (go_at_call 12; refine (turn_any _ _).mono ?_; rintro e w' ⟨rfl, hw⟩; rw [hw]; clear hw)
    | (go_at_call 14; refine (other_any _ _).mono ?_; rintro e w' ⟨rfl, hw⟩; rw [hw]; clear hw)
    | (go_at_call 16; refine (alive_any _).mono ?_; rintro e w' ⟨rfl, hg⟩; replace HG := HG.trans hg; clear hg))
  go_ret
  exact ⟨rfl, HG.grown⟩
set_option maxRecDepth 100000 in
set_option maxHeartbeats 4000000 in
theorem ask_false_0_1 (c a b : Int) (hc : 0 ≤ c) (ha : 0 ≤ a ∧ a ≤ 18446744073709551615) (hb : 0 ≤ b ∧ b ≤ 18446744073709551615) (hd : Ord5 false 2147483648 a b true false false false false true) (t : isturn c = true) (u : isother c = false) (w : World) :
    Calls Try.prog 6 #[.int .u8 c, .bool false, .int .u64 a, .int .u64 b] w fun e w' => e = .returned (.bool true) ∧ Grown w w' := by
  have HG : Gr w w := Gr.refl w
  obtain ⟨q1, q2, q3, q4, q5, q6, q7⟩ := hd
  simp only [Bool.not_true] at q7
  obtain ⟨t0, t1, t2, t3⟩ := turn_facts c t
  have k1 : (errA c != 0) = false := by rw [t1, bne_self_eq_false]
  have k2 : asksV false (turnV c) b a = asksV false c a b := t3 _ a b
  have k3 : (turnV (turnV c) != c) = false := by rw [t2, bne_self_eq_false]
  clear t1 t2 t3
  go_enter Try.func6, Try.ntmps6
  go_wp2_with (first
    | (go_at_call 10; refine (asks_any _ _ _ _ (by first | assumption | omega) (by assumption) (by assumption) _).mono ?_; rintro e w' ⟨rfl, hg⟩; replace HG := HG.trans hg; clear hg)
    | (go_at_call 12; refine (turn_any _ _).mono ?_; rintro e w' ⟨rfl, hw⟩; rw [hw]; clear hw)
    | (go_at_call 14; refine (other_any _ _).mono ?_; rintro e w' ⟨rfl, hw⟩; rw [hw]; clear hw)
    | (go_at_call 16; refine (alive_any _).mono ?_; rintro e w' ⟨rfl, hg⟩; replace HG := HG.trans hg; clear hg))
  go_ret
  exact ⟨rfl, HG.grown⟩
set_option maxRecDepth 100000 in
set_option maxHeartbeats 4000000 in
theorem ask_false_0_2 (c a b : Int) (hc : 0 ≤ c) (ha : 0 ≤ a ∧ a ≤ 18446744073709551615) (hb : 0 ≤ b ∧ b ≤ 18446744073709551615) (hd : Ord5 false 2147483648 a b true false false false false true) (t : isturn c = false) (u : isother c = false) (w : World) :
    Calls Try.prog 6 #[.int .u8 c, .bool false, .int .u64 a, .int .u64 b] w fun e w' => e = .returned (.bool true) ∧ Grown w w' := by
  have HG : Gr w w := Gr.refl w
  obtain ⟨q1, q2, q3, q4, q5, q6, q7⟩ := hd
  simp only [Bool.not_true] at q7
  go_enter Try.func6, Try.ntmps6
  go_wp2_with (first
    | (go_at_call 10; refine (asks_any _ _ _ _ (by first | assumption | omega) (by assumption) (by assumption) _).mono ?_; rintro e w' ⟨rfl, hg⟩; replace HG := HG.trans hg; clear hg)
    | (go_at_call 12; refine (turn_any _ _).mono ?_; rintro e w' ⟨rfl, hw⟩; rw [hw]; clear hw)
    | (go_at_call 14; refine (other_any _ _).mono ?_; rintro e w' ⟨rfl, hw⟩; rw [hw]; clear hw)
    | (go_at_call 16; refine (alive_any _).mono ?_; rintro e w' ⟨rfl, hg⟩; replace HG := HG.trans hg; clear hg))
  go_ret
  exact ⟨rfl, HG.grown⟩
set_option maxRecDepth 100000 in
set_option maxHeartbeats 4000000 in
theorem ask_false_1_0 (c a b : Int) (hc : 0 ≤ c) (ha : 0 ≤ a ∧ a ≤ 18446744073709551615) (hb : 0 ≤ b ∧ b ≤ 18446744073709551615) (hd : Ord5 false 2147483648 a b false true false true false true) (t : isturn c = true) (u : isother c = true) (w : World) :
    Calls Try.prog 6 #[.int .u8 c, .bool false, .int .u64 a, .int .u64 b] w fun e w' => e = .returned (.bool true) ∧ Grown w w' := by
  have HG : Gr w w := Gr.refl w
  obtain ⟨q1, q2, q3, q4, q5, q6, q7⟩ := hd
  simp only [Bool.not_true] at q7
  obtain ⟨t0, t1, t2, t3⟩ := turn_facts c t
  have k1 : (errA c != 0) = false := by rw [t1, bne_self_eq_false]
  have k2 : asksV false (turnV c) b a = asksV false c a b := t3 _ a b
  have k3 : (turnV (turnV c) != c) = false := by rw [t2, bne_self_eq_false]
  clear t1 t2 t3
  obtain ⟨u0, u1, u2, u3⟩ := other_facts c u
  have k4 : (errA c == 0) = true := by rw [u1, beq_self_eq_true]
  have k5 : asksV false (otherV c) a b = !asksV false c a b := u3 _ a b
  have k6 : (otherV (otherV c) == c) = true := by rw [u2, beq_self_eq_true]
  clear u1 u2 u3
  go_enter Try.func6, Try.ntmps6
  go_wp2_with (first
    | (go_at_call 10; refine (asks_any _ _ _ _ (by first | assumption | omega) (by assumption) (by assumption) _).mono ?_; rintro e w' ⟨rfl, hg⟩; replace HG := HG.trans hg; clear hg)
    | (go_at_call 12; refine (turn_any _ _).mono ?_; rintro e w' ⟨rfl, hw⟩; rw [hw]; clear hw)
    | (go_at_call 14; refine (other_any _ _).mono ?_; rintro e w' ⟨rfl, hw⟩; rw [hw]; clear hw)
    | (go_at_call 16; refine (alive_any _).mono ?_; rintro e w' ⟨rfl, hg⟩; replace HG := HG.trans hg; clear hg))
  go_ret
  exact ⟨rfl, HG.grown⟩
set_option maxRecDepth 100000 in
set_option maxHeartbeats 4000000 in
theorem ask_false_1_1 (c a b : Int) (hc : 0 ≤ c) (ha : 0 ≤ a ∧ a ≤ 18446744073709551615) (hb : 0 ≤ b ∧ b ≤ 18446744073709551615) (hd : Ord5 false 2147483648 a b false true false true false true) (t : isturn c = true) (u : isother c = false) (w : World) :
    Calls Try.prog 6 #[.int .u8 c, .bool false, .int .u64 a, .int .u64 b] w fun e w' => e = .returned (.bool true) ∧ Grown w w' := by
  have HG : Gr w w := Gr.refl w
  obtain ⟨q1, q2, q3, q4, q5, q6, q7⟩ := hd
  simp only [Bool.not_true] at q7
  obtain ⟨t0, t1, t2, t3⟩ := turn_facts c t
  have k1 : (errA c != 0) = false := by rw [t1, bne_self_eq_false]
  have k2 : asksV false (turnV c) b a = asksV false c a b := t3 _ a b
  have k3 : (turnV (turnV c) != c) = false := by rw [t2, bne_self_eq_false]
  clear t1 t2 t3
  go_enter Try.func6, Try.ntmps6
  go_wp2_with (first
    | (go_at_call 10; refine (asks_any _ _ _ _ (by first | assumption | omega) (by assumption) (by assumption) _).mono ?_; rintro e w' ⟨rfl, hg⟩; replace HG := HG.trans hg; clear hg)
    | (go_at_call 12; refine (turn_any _ _).mono ?_; rintro e w' ⟨rfl, hw⟩; rw [hw]; clear hw)
    | (go_at_call 14; refine (other_any _ _).mono ?_; rintro e w' ⟨rfl, hw⟩; rw [hw]; clear hw)
    | (go_at_call 16; refine (alive_any _).mono ?_; rintro e w' ⟨rfl, hg⟩; replace HG := HG.trans hg; clear hg))
  go_ret
  exact ⟨rfl, HG.grown⟩
set_option maxRecDepth 100000 in
set_option maxHeartbeats 4000000 in
theorem ask_false_1_2 (c a b : Int) (hc : 0 ≤ c) (ha : 0 ≤ a ∧ a ≤ 18446744073709551615) (hb : 0 ≤ b ∧ b ≤ 18446744073709551615) (hd : Ord5 false 2147483648 a b false true false true false true) (t : isturn c = false) (u : isother c = false) (w : World) :
    Calls Try.prog 6 #[.int .u8 c, .bool false, .int .u64 a, .int .u64 b] w fun e w' => e = .returned (.bool true) ∧ Grown w w' := by
  have HG : Gr w w := Gr.refl w
  obtain ⟨q1, q2, q3, q4, q5, q6, q7⟩ := hd
  simp only [Bool.not_true] at q7
  go_enter Try.func6, Try.ntmps6
  go_wp2_with (first
    | (go_at_call 10; refine (asks_any _ _ _ _ (by first | assumption | omega) (by assumption) (by assumption) _).mono ?_; rintro e w' ⟨rfl, hg⟩; replace HG := HG.trans hg; clear hg)
    | (go_at_call 12; refine (turn_any _ _).mono ?_; rintro e w' ⟨rfl, hw⟩; rw [hw]; clear hw)
    | (go_at_call 14; refine (other_any _ _).mono ?_; rintro e w' ⟨rfl, hw⟩; rw [hw]; clear hw)
    | (go_at_call 16; refine (alive_any _).mono ?_; rintro e w' ⟨rfl, hg⟩; replace HG := HG.trans hg; clear hg))
  go_ret
  exact ⟨rfl, HG.grown⟩
set_option maxRecDepth 100000 in
set_option maxHeartbeats 4000000 in
theorem ask_false_2_0 (c a b : Int) (hc : 0 ≤ c) (ha : 0 ≤ a ∧ a ≤ 18446744073709551615) (hb : 0 ≤ b ∧ b ≤ 18446744073709551615) (hd : Ord5 false 2147483648 a b false false true false true true) (t : isturn c = true) (u : isother c = true) (w : World) :
    Calls Try.prog 6 #[.int .u8 c, .bool false, .int .u64 a, .int .u64 b] w fun e w' => e = .returned (.bool true) ∧ Grown w w' := by
  have HG : Gr w w := Gr.refl w
  obtain ⟨q1, q2, q3, q4, q5, q6, q7⟩ := hd
  simp only [Bool.not_true] at q7
  obtain ⟨t0, t1, t2, t3⟩ := turn_facts c t
  have k1 : (errA c != 0) = false := by rw [t1, bne_self_eq_false]
  have k2 : asksV false (turnV c) b a = asksV false c a b := t3 _ a b
  have k3 : (turnV (turnV c) != c) = false := by rw [t2, bne_self_eq_false]
  clear t1 t2 t3
  obtain ⟨u0, u1, u2, u3⟩ := other_facts c u
  have k4 : (errA c == 0) = true := by rw [u1, beq_self_eq_true]
  have k5 : asksV false (otherV c) a b = !asksV false c a b := u3 _ a b
  have k6 : (otherV (otherV c) == c) = true := by rw [u2, beq_self_eq_true]
  clear u1 u2 u3
  go_enter Try.func6, Try.ntmps6
  go_wp2_with (first
    | (go_at_call 10; refine (asks_any _ _ _ _ (by first | assumption | omega) (by assumption) (by assumption) _).mono ?_; rintro e w' ⟨rfl, hg⟩; replace HG := HG.trans hg; clear hg)
    | (go_at_call 12; refine (turn_any _ _).mono ?_; rintro e w' ⟨rfl, hw⟩; rw [hw]; clear hw)
    | (go_at_call 14; refine (other_any _ _).mono ?_; rintro e w' ⟨rfl, hw⟩; rw [hw]; clear hw)
    | (go_at_call 16; refine (alive_any _).mono ?_; rintro e w' ⟨rfl, hg⟩; replace HG := HG.trans hg; clear hg))
  go_ret
  exact ⟨rfl, HG.grown⟩
set_option maxRecDepth 100000 in
set_option maxHeartbeats 4000000 in
theorem ask_false_2_1 (c a b : Int) (hc : 0 ≤ c) (ha : 0 ≤ a ∧ a ≤ 18446744073709551615) (hb : 0 ≤ b ∧ b ≤ 18446744073709551615) (hd : Ord5 false 2147483648 a b false false true false true true) (t : isturn c = true) (u : isother c = false) (w : World) :
    Calls Try.prog 6 #[.int .u8 c, .bool false, .int .u64 a, .int .u64 b] w fun e w' => e = .returned (.bool true) ∧ Grown w w' := by
  have HG : Gr w w := Gr.refl w
  obtain ⟨q1, q2, q3, q4, q5, q6, q7⟩ := hd
  simp only [Bool.not_true] at q7
  obtain ⟨t0, t1, t2, t3⟩ := turn_facts c t
  have k1 : (errA c != 0) = false := by rw [t1, bne_self_eq_false]
  have k2 : asksV false (turnV c) b a = asksV false c a b := t3 _ a b
  have k3 : (turnV (turnV c) != c) = false := by rw [t2, bne_self_eq_false]
  clear t1 t2 t3
  go_enter Try.func6, Try.ntmps6
  go_wp2_with (first
    | (go_at_call 10; refine (asks_any _ _ _ _ (by first | assumption | omega) (by assumption) (by assumption) _).mono ?_; rintro e w' ⟨rfl, hg⟩; replace HG := HG.trans hg; clear hg)
    | (go_at_call 12; refine (turn_any _ _).mono ?_; rintro e w' ⟨rfl, hw⟩; rw [hw]; clear hw)
    | (go_at_call 14; refine (other_any _ _).mono ?_; rintro e w' ⟨rfl, hw⟩; rw [hw]; clear hw)
    | (go_at_call 16; refine (alive_any _).mono ?_; rintro e w' ⟨rfl, hg⟩; replace HG := HG.trans hg; clear hg))
  go_ret
  exact ⟨rfl, HG.grown⟩
set_option maxRecDepth 100000 in
set_option maxHeartbeats 4000000 in
theorem ask_false_2_2 (c a b : Int) (hc : 0 ≤ c) (ha : 0 ≤ a ∧ a ≤ 18446744073709551615) (hb : 0 ≤ b ∧ b ≤ 18446744073709551615) (hd : Ord5 false 2147483648 a b false false true false true true) (t : isturn c = false) (u : isother c = false) (w : World) :
    Calls Try.prog 6 #[.int .u8 c, .bool false, .int .u64 a, .int .u64 b] w fun e w' => e = .returned (.bool true) ∧ Grown w w' := by
  have HG : Gr w w := Gr.refl w
  obtain ⟨q1, q2, q3, q4, q5, q6, q7⟩ := hd
  simp only [Bool.not_true] at q7
  go_enter Try.func6, Try.ntmps6
  go_wp2_with (first
    | (go_at_call 10; refine (asks_any _ _ _ _ (by first | assumption | omega) (by assumption) (by assumption) _).mono ?_; rintro e w' ⟨rfl, hg⟩; replace HG := HG.trans hg; clear hg)
    | (go_at_call 12; refine (turn_any _ _).mono ?_; rintro e w' ⟨rfl, hw⟩; rw [hw]; clear hw)
    | (go_at_call 14; refine (other_any _ _).mono ?_; rintro e w' ⟨rfl, hw⟩; rw [hw]; clear hw)
    | (go_at_call 16; refine (alive_any _).mono ?_; rintro e w' ⟨rfl, hg⟩; replace HG := HG.trans hg; clear hg))
  go_ret
  exact ⟨rfl, HG.grown⟩
set_option maxRecDepth 100000 in
set_option maxHeartbeats 4000000 in
theorem ask_false_3_0 (c a b : Int) (hc : 0 ≤ c) (ha : 0 ≤ a ∧ a ≤ 18446744073709551615) (hb : 0 ≤ b ∧ b ≤ 18446744073709551615) (hd : Ord5 false 2147483648 a b false true false false true false) (t : isturn c = true) (u : isother c = true) (w : World) :
    Calls Try.prog 6 #[.int .u8 c, .bool false, .int .u64 a, .int .u64 b] w fun e w' => e = .returned (.bool true) ∧ Grown w w' := by
  have HG : Gr w w := Gr.refl w
  obtain ⟨q1, q2, q3, q4, q5, q6, q7⟩ := hd
  simp only [Bool.not_false] at q7
  obtain ⟨t0, t1, t2, t3⟩ := turn_facts c t
  have k1 : (errA c != 0) = false := by rw [t1, bne_self_eq_false]
  have k2 : asksV false (turnV c) b a = asksV false c a b := t3 _ a b
  have k3 : (turnV (turnV c) != c) = false := by rw [t2, bne_self_eq_false]
  clear t1 t2 t3
  obtain ⟨u0, u1, u2, u3⟩ := other_facts c u
  have k4 : (errA c == 0) = true := by rw [u1, beq_self_eq_true]
  have k5 : asksV false (otherV c) a b = !asksV false c a b := u3 _ a b
  have k6 : (otherV (otherV c) == c) = true := by rw [u2, beq_self_eq_true]
  clear u1 u2 u3
  go_enter Try.func6, Try.ntmps6
  go_wp2_with (first
    | (go_at_call 10; refine (asks_any _ _ _ _ (by first | assumption | omega) (by assumption) (by assumption) _).mono ?_; rintro e w' ⟨rfl, hg⟩; replace HG := HG.trans hg; clear hg)
    | (go_at_call 12; refine (turn_any _ _).mono ?_; rintro e w' ⟨rfl, hw⟩; rw [hw]; clear hw)
    | (go_at_call 14; refine (other_any _ _).mono ?_; rintro e w' ⟨rfl, hw⟩; rw [hw]; clear hw)
    | (go_at_call 16; refine (alive_any _).mono ?_; rintro e w' ⟨rfl, hg⟩; replace HG := HG.trans hg; clear hg))
  go_ret
  exact ⟨rfl, HG.grown⟩
set_option maxRecDepth 100000 in
set_option maxHeartbeats 4000000 in
theorem ask_false_3_1 (c a b : Int) (hc : 0 ≤ c) (ha : 0 ≤ a ∧ a ≤ 18446744073709551615) (hb : 0 ≤ b ∧ b ≤ 18446744073709551615) (hd : Ord5 false 2147483648 a b false true false false true false) (t : isturn c = true) (u : isother c = false) (w : World) :
    Calls Try.prog 6 #[.int .u8 c, .bool false, .int .u64 a, .int .u64 b] w fun e w' => e = .returned (.bool true) ∧ Grown w w' := by
  have HG : Gr w w := Gr.refl w
  obtain ⟨q1, q2, q3, q4, q5, q6, q7⟩ := hd
  simp only [Bool.not_false] at q7
  obtain ⟨t0, t1, t2, t3⟩ := turn_facts c t
  have k1 : (errA c != 0) = false := by rw [t1, bne_self_eq_false]
  have k2 : asksV false (turnV c) b a = asksV false c a b := t3 _ a b
  have k3 : (turnV (turnV c) != c) = false := by rw [t2, bne_self_eq_false]
  clear t1 t2 t3
  go_enter Try.func6, Try.ntmps6
  go_wp2_with (first
    | (go_at_call 10; refine (asks_any _ _ _ _ (by first | assumption | omega) (by assumption) (by assumption) _).mono ?_; rintro e w' ⟨rfl, hg⟩; replace HG := HG.trans hg; clear hg)
    | (go_at_call 12; refine (turn_any _ _).mono ?_; rintro e w' ⟨rfl, hw⟩; rw [hw]; clear hw)
    | (go_at_call 14; refine (other_any _ _).mono ?_; rintro e w' ⟨rfl, hw⟩; rw [hw]; clear hw)
    | (go_at_call 16; refine (alive_any _).mono ?_; rintro e w' ⟨rfl, hg⟩; replace HG := HG.trans hg; clear hg))
  go_ret
  exact ⟨rfl, HG.grown⟩
set_option maxRecDepth 100000 in
set_option maxHeartbeats 4000000 in
theorem ask_false_3_2 (c a b : Int) (hc : 0 ≤ c) (ha : 0 ≤ a ∧ a ≤ 18446744073709551615) (hb : 0 ≤ b ∧ b ≤ 18446744073709551615) (hd : Ord5 false 2147483648 a b false true false false true false) (t : isturn c = false) (u : isother c = false) (w : World) :
    Calls Try.prog 6 #[.int .u8 c, .bool false, .int .u64 a, .int .u64 b] w fun e w' => e = .returned (.bool true) ∧ Grown w w' := by
  have HG : Gr w w := Gr.refl w
  obtain ⟨q1, q2, q3, q4, q5, q6, q7⟩ := hd
  simp only [Bool.not_false] at q7
  go_enter Try.func6, Try.ntmps6
  go_wp2_with (first
    | (go_at_call 10; refine (asks_any _ _ _ _ (by first | assumption | omega) (by assumption) (by assumption) _).mono ?_; rintro e w' ⟨rfl, hg⟩; replace HG := HG.trans hg; clear hg)
    | (go_at_call 12; refine (turn_any _ _).mono ?_; rintro e w' ⟨rfl, hw⟩; rw [hw]; clear hw)
    | (go_at_call 14; refine (other_any _ _).mono ?_; rintro e w' ⟨rfl, hw⟩; rw [hw]; clear hw)
    | (go_at_call 16; refine (alive_any _).mono ?_; rintro e w' ⟨rfl, hg⟩; replace HG := HG.trans hg; clear hg))
  go_ret
  exact ⟨rfl, HG.grown⟩
set_option maxRecDepth 100000 in
set_option maxHeartbeats 4000000 in
theorem ask_false_4_0 (c a b : Int) (hc : 0 ≤ c) (ha : 0 ≤ a ∧ a ≤ 18446744073709551615) (hb : 0 ≤ b ∧ b ≤ 18446744073709551615) (hd : Ord5 false 2147483648 a b false false true true false false) (t : isturn c = true) (u : isother c = true) (w : World) :
    Calls Try.prog 6 #[.int .u8 c, .bool false, .int .u64 a, .int .u64 b] w fun e w' => e = .returned (.bool true) ∧ Grown w w' := by
  have HG : Gr w w := Gr.refl w
  obtain ⟨q1, q2, q3, q4, q5, q6, q7⟩ := hd
  simp only [Bool.not_false] at q7
  obtain ⟨t0, t1, t2, t3⟩ := turn_facts c t
  have k1 : (errA c != 0) = false := by rw [t1, bne_self_eq_false]
  have k2 : asksV false (turnV c) b a = asksV false c a b := t3 _ a b
  have k3 : (turnV (turnV c) != c) = false := by rw [t2, bne_self_eq_false]
  clear t1 t2 t3
  obtain ⟨u0, u1, u2, u3⟩ := other_facts c u
  have k4 : (errA c == 0) = true := by rw [u1, beq_self_eq_true]
  have k5 : asksV false (otherV c) a b = !asksV false c a b := u3 _ a b
  have k6 : (otherV (otherV c) == c) = true := by rw [u2, beq_self_eq_true]
  clear u1 u2 u3
  go_enter Try.func6, Try.ntmps6
  go_wp2_with (first
    | (go_at_call 10; refine (asks_any _ _ _ _ (by first | assumption | omega) (by assumption) (by assumption) _).mono ?_; rintro e w' ⟨rfl, hg⟩; replace HG := HG.trans hg; clear hg)
    | (go_at_call 12; refine (turn_any _ _).mono ?_; rintro e w' ⟨rfl, hw⟩; rw [hw]; clear hw)
    | (go_at_call 14; refine (other_any _ _).mono ?_; rintro e w' ⟨rfl, hw⟩; rw [hw]; clear hw)
    | (go_at_call 16; refine (alive_any _).mono ?_; rintro e w' ⟨rfl, hg⟩; replace HG := HG.trans hg; clear hg))
  go_ret
  exact ⟨rfl, HG.grown⟩
set_option maxRecDepth 100000 in
set_option maxHeartbeats 4000000 in
theorem ask_false_4_1 (c a b : Int) (hc : 0 ≤ c) (ha : 0 ≤ a ∧ a ≤ 18446744073709551615) (hb : 0 ≤ b ∧ b ≤ 18446744073709551615) (hd : Ord5 false 2147483648 a b false false true true false false) (t : isturn c = true) (u : isother c = false) (w : World) :
    Calls Try.prog 6 #[.int .u8 c, .bool false, .int .u64 a, .int .u64 b] w fun e w' => e = .returned (.bool true) ∧ Grown w w' := by
  have HG : Gr w w := Gr.refl w
  obtain ⟨q1, q2, q3, q4, q5, q6, q7⟩ := hd
  simp only [Bool.not_false] at q7
  obtain ⟨t0, t1, t2, t3⟩ := turn_facts c t
  have k1 : (errA c != 0) = false := by rw [t1, bne_self_eq_false]
  have k2 : asksV false (turnV c) b a = asksV false c a b := t3 _ a b
  have k3 : (turnV (turnV c) != c) = false := by rw [t2, bne_self_eq_false]
  clear t1 t2 t3
  go_enter Try.func6, Try.ntmps6
  go_wp2_with (first
    | (go_at_call 10; refine (asks_any _ _ _ _ (by first | assumption | omega) (by assumption) (by assumption) _).mono ?_; rintro e w' ⟨rfl, hg⟩; replace HG := HG.trans hg; clear hg)
    | (go_at_call 12; refine (turn_any _ _).mono ?_; rintro e w' ⟨rfl, hw⟩; rw [hw]; clear hw)
    | (go_at_call 14; refine (other_any _ _).mono ?_; rintro e w' ⟨rfl, hw⟩; rw [hw]; clear hw)
    | (go_at_call 16; refine (alive_any _).mono ?_; rintro e w' ⟨rfl, hg⟩; replace HG := HG.trans hg; clear hg))
  go_ret
  exact ⟨rfl, HG.grown⟩
set_option maxRecDepth 100000 in
set_option maxHeartbeats 4000000 in
theorem ask_false_4_2 (c a b : Int) (hc : 0 ≤ c) (ha : 0 ≤ a ∧ a ≤ 18446744073709551615) (hb : 0 ≤ b ∧ b ≤ 18446744073709551615) (hd : Ord5 false 2147483648 a b false false true true false false) (t : isturn c = false) (u : isother c = false) (w : World) :
    Calls Try.prog 6 #[.int .u8 c, .bool false, .int .u64 a, .int .u64 b] w fun e w' => e = .returned (.bool true) ∧ Grown w w' := by
  have HG : Gr w w := Gr.refl w
  obtain ⟨q1, q2, q3, q4, q5, q6, q7⟩ := hd
  simp only [Bool.not_false] at q7
  go_enter Try.func6, Try.ntmps6
  go_wp2_with (first
    | (go_at_call 10; refine (asks_any _ _ _ _ (by first | assumption | omega) (by assumption) (by assumption) _).mono ?_; rintro e w' ⟨rfl, hg⟩; replace HG := HG.trans hg; clear hg)
    | (go_at_call 12; refine (turn_any _ _).mono ?_; rintro e w' ⟨rfl, hw⟩; rw [hw]; clear hw)
    | (go_at_call 14; refine (other_any _ _).mono ?_; rintro e w' ⟨rfl, hw⟩; rw [hw]; clear hw)
    | (go_at_call 16; refine (alive_any _).mono ?_; rintro e w' ⟨rfl, hg⟩; replace HG := HG.trans hg; clear hg))
  go_ret
  exact ⟨rfl, HG.grown⟩
end Go.Proofs.Ytmngficbohlnhaa
