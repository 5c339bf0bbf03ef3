/- Towards the statements of package span (layer 4): contracts of the closures: products, quotients, shifts; numbers with a sign. -/
import Derived.Test.YtekenpgagfmgkaaGreatRowA
import Derived.Shelf.Bits.Mul64
import Derived.Lib.Mul64
namespace Go.Proofs.YtekenpgagfmgkaaGreat
open Go.ChangeShapes Go.WideShapes Go.ChangeAt Go.RowKit
set_option linter.unusedVariables false
open Go.Lib
set_option maxRecDepth 20000

set_option maxHeartbeats 1000000 in
theorem mul64_any (x y : Int) (hx : InU x) (hy : InU y) (w : World) : Calls Tryz.prog 214 #[.int .u64 x, .int .u64 y] w fun e w' => e = .returned (.tuple #[.int .u64 (x * y / 18446744073709551616), .int .u64 (IntKind.u64.wrap (x * y))]) ∧ w' = w := by
  unfold InU at hx hy
  obtain ⟨a, rfl⟩ := Int.eq_ofNat_of_zero_le hx.1
  obtain ⟨b, rfl⟩ := Int.eq_ofNat_of_zero_le hy.1
  obtain ⟨k1, k2, k3, k4⟩ := Lib.mul64_hi a b (by omega) (by omega)
  have m1 := Lib.half_mul_le (a := a / 4294967296) (b := b / 4294967296) (by omega) (by omega)
  have m2 := Lib.half_mul_le (a := a / 4294967296) (b := b % 4294967296) (by omega) (by omega)
  have m3 := Lib.half_mul_le (a := a % 4294967296) (b := b / 4294967296) (by omega) (by omega)
  have e1 : (a : Int) * (b : Int) / 18446744073709551616 = ((a * b / 18446744073709551616 : Nat) : Int) := by rw [Mul64.mulN]; omega
  have k5 : a / 4294967296 * (b / 4294967296) + (a / 4294967296 * (b % 4294967296) + a % 4294967296 * (b % 4294967296) / 4294967296) / 4294967296 < 18446744073709551616 := by omega
  have k6 : a / 4294967296 * (b / 4294967296) + (a / 4294967296 * (b % 4294967296) + a % 4294967296 * (b % 4294967296) / 4294967296) / 4294967296 + ((a / 4294967296 * (b % 4294967296) + a % 4294967296 * (b % 4294967296) / 4294967296) % 4294967296 + a % 4294967296 * (b / 4294967296)) / 4294967296 < 18446744073709551616 := by omega
  rw [e1, ← k4]
  go_enter Tryz.func214, Tryz.ntmps214
  go_wp2
  simp only [Mul64.maskN a (by omega), Mul64.maskN b (by omega), Mul64.divN, Mul64.mulN, Mul64.addN, Mul64.wrapN _ k1, Mul64.wrapN _ (show _ < 18446744073709551616 by omega : a / 4294967296 * (b % 4294967296) < 18446744073709551616), Mul64.wrapN _ k2, Mul64.maskN _ k2, Mul64.wrapN _ (show _ < 18446744073709551616 by omega : a % 4294967296 * (b / 4294967296) < 18446744073709551616), Mul64.wrapN _ k3, Mul64.wrapN _ (show _ < 18446744073709551616 by omega : a / 4294967296 * (b / 4294967296) < 18446744073709551616), Mul64.wrapN _ k5, Mul64.wrapN _ k6]
  go_returns
  exact ⟨rfl, rfl⟩
theorem mul_c (x y : Int) (hx : InU x) (hy : InU y) (w : World) : Calls Tryz.prog 213 #[.int .u64 x, .int .u64 y] w fun e w' => e = .returned (.tuple #[.int .u64 (IntKind.u64.wrap (x * y)), .bool (decide (x * y ≤ 18446744073709551615))]) ∧ w' = w := by
  have hq : (x * y / 18446744073709551616 == 0) = decide (x * y ≤ 18446744073709551615) := by
    have h0 : 0 ≤ x * y := Int.mul_nonneg hx.1 hy.1
    generalize x * y = z at *
    by_cases h : z ≤ 18446744073709551615
    · rw [decide_eq_true h, beq_iff_eq]; omega
    · rw [decide_eq_false h, beq_eq_false_iff_ne]; omega
  go_enter Tryz.func213, Tryz.ntmps213
  go_wp2_with (first
    | (go_at_call 214; refine (mul64_any _ _ hx hy _).mono ?_; rintro e w' ⟨rfl, hw⟩; subst hw))
  go_returns
  exact ⟨rfl, rfl⟩
theorem quo_u (x y : Int) (hx : InU x) (hc : 0 < y) : IntKind.u64.wrap (x.tdiv y) = x / y := by
  unfold InU at hx
  rw [Int.tdiv_eq_ediv_of_nonneg hx.1, IntKind.wrap_u64]
  have h1 : 0 ≤ x / y := Int.ediv_nonneg hx.1 (by omega)
  have h2 : x / y ≤ x := Int.ediv_le_self _ hx.1
  omega
theorem div_c (x y : Int) (hx : InU x) (hy : InU y) (hc : 0 < y) (w : World) : Calls Tryz.prog 190 #[.int .u64 x, .int .u64 y] w fun e w' => e = .returned (.tuple #[.int .u64 (x / y), .bool (true)]) ∧ w' = w := by
  have hq := quo_u x y hx hc
  have hz : (y == 0) = false := by rw [beq_eq_false_iff_ne]; omega
  have hz2 : y ≠ 0 := by omega
  go_enter Tryz.func190, Tryz.ntmps190
  go_wp2
  go_returns
  exact ⟨rfl, rfl⟩
theorem shl_is (x : Int) (hx : InU x) (n : Nat) (h : n ≤ 63) : (IntKind.u64.wrap (x * 2 ^ n) / 2 ^ n == x) = decide (x * 2 ^ n ≤ 18446744073709551615) := by
  unfold InU at hx
  have hp : (0 : Int) < 2 ^ n := Int.pow_pos (by omega)
  have h0 : 0 ≤ x * 2 ^ n := Int.mul_nonneg hx.1 (by omega)
  rw [IntKind.wrap_u64]
  by_cases hb : x * 2 ^ n ≤ 18446744073709551615
  · rw [decide_eq_true hb, beq_iff_eq, Int.emod_eq_of_lt h0 (by omega)]
    exact Int.mul_ediv_cancel _ (by omega)
  · rw [decide_eq_false hb, beq_eq_false_iff_ne]
    intro he
    have h1 : x * 2 ^ n % 18446744073709551616 < x * 2 ^ n := by omega
    have h2 := Int.ediv_mul_le (x * 2 ^ n % 18446744073709551616) (show (2 : Int) ^ n ≠ 0 by omega)
    rw [he] at h2
    omega
theorem plus_is (x y : Int) (hx : InS x) (hy : InS y) : (decide (wrap64 (x + y) < x) == decide (y < 0)) = (decide (-9223372036854775808 ≤ x + y) && decide (x + y ≤ 9223372036854775807)) := by
  unfold InS at hx hy
  have e : wrap64 (x + y) = IntKind.i64.wrap (x + y) := by simp only [wrap64, IntKind.wrap_i64]
  rw [e, IntKind.wrap_i64]
  by_cases h : -9223372036854775808 ≤ x + y ∧ x + y ≤ 9223372036854775807
  · rw [decide_eq_true h.1, decide_eq_true h.2]
    by_cases hn : y < 0
    · rw [decide_eq_true hn, decide_eq_true (by omega)]; rfl
    · rw [decide_eq_false hn, decide_eq_false (by omega)]; rfl
  · rw [← Bool.decide_and, decide_eq_false h]
    by_cases hn : y < 0
    · rw [decide_eq_true hn, decide_eq_false (by omega)]; rfl
    · rw [decide_eq_false hn, decide_eq_true (by omega)]; rfl
theorem minus_is (x y : Int) (hx : InS x) (hy : InS y) : (decide (x < wrap64 (x - y)) == decide (y < 0)) = (decide (-9223372036854775808 ≤ x - y) && decide (x - y ≤ 9223372036854775807)) := by
  unfold InS at hx hy
  have e : wrap64 (x - y) = IntKind.i64.wrap (x - y) := by simp only [wrap64, IntKind.wrap_i64]
  rw [e, IntKind.wrap_i64]
  by_cases h : -9223372036854775808 ≤ x - y ∧ x - y ≤ 9223372036854775807
  · rw [decide_eq_true h.1, decide_eq_true h.2]
    by_cases hn : y < 0
    · rw [decide_eq_true hn, decide_eq_true (by omega)]; rfl
    · rw [decide_eq_false hn, decide_eq_false (by omega)]; rfl
  · rw [← Bool.decide_and, decide_eq_false h]
    by_cases hn : y < 0
    · rw [decide_eq_true hn, decide_eq_false (by omega)]; rfl
    · rw [decide_eq_false hn, decide_eq_true (by omega)]; rfl
theorem shr_c (x y : Int) (hx : InU x) (hy : InU y) (n : Nat) (c : Addr) (w : World) (hn : w.cell? c = some (.int .u64 (n : Int))) : Calls Tryz.prog 217 #[.int .u64 x, .int .u64 y, .pointer (some c)] w fun e w' => e = .returned (.tuple #[.int .u64 (x / 2 ^ min n 64), .bool (true)]) ∧ w' = w := by
  go_enter Tryz.func217, Tryz.ntmps217
  go_wp2
  go_returns
  exact ⟨rfl, rfl⟩
theorem plus_c (x y : Int) (hx : InS x) (hy : InS y) (w : World) : Calls Tryz.prog 209 #[.int .i64 x, .int .i64 y] w fun e w' => e = .returned (.tuple #[.int .i64 (wrap64 (x + y)), .bool (decide (-9223372036854775808 ≤ x + y) && decide (x + y ≤ 9223372036854775807))]) ∧ w' = w := by
  have hq := plus_is x y hx hy
  go_enter Tryz.func209, Tryz.ntmps209
  go_wp2
  go_returns
  exact ⟨rfl, rfl⟩
theorem minus_c (x y : Int) (hx : InS x) (hy : InS y) (w : World) : Calls Tryz.prog 212 #[.int .i64 x, .int .i64 y] w fun e w' => e = .returned (.tuple #[.int .i64 (wrap64 (x - y)), .bool (decide (-9223372036854775808 ≤ x - y) && decide (x - y ≤ 9223372036854775807))]) ∧ w' = w := by
  have hq := minus_is x y hx hy
  go_enter Tryz.func212, Tryz.ntmps212
  go_wp2
  go_returns
  exact ⟨rfl, rfl⟩
theorem sar_c (x y : Int) (hx : InS x) (hy : InS y) (n : Nat) (c : Addr) (w : World) (hn : w.cell? c = some (.int .u64 (n : Int))) : Calls Tryz.prog 219 #[.int .i64 x, .int .i64 y, .pointer (some c)] w fun e w' => e = .returned (.tuple #[.int .i64 (x / 2 ^ min n 63), .bool (true)]) ∧ w' = w := by
  rcases Nat.lt_or_ge 63 n with h | h
  · rw [Nat.min_eq_right (by omega)]
    have h' : (63 : Int) < (n : Int) := by omega
    go_enter Tryz.func219, Tryz.ntmps219
    go_wp2
    go_returns
    exact ⟨rfl, rfl⟩
  · rw [Nat.min_eq_left (by omega)]
    have h' : ¬ (63 : Int) < (n : Int) := by omega
    go_enter Tryz.func219, Tryz.ntmps219
    go_wp2
    go_returns
    exact ⟨rfl, rfl⟩
theorem shl_c (x y : Int) (hx : InU x) (hy : InU y) (n : Nat) (c : Addr) (w : World) (hn : w.cell? c = some (.int .u64 (n : Int))) : Calls Tryz.prog 216 #[.int .u64 x, .int .u64 y, .pointer (some c)] w fun e w' => e = .returned (.tuple #[.int .u64 (IntKind.u64.wrap (x * 2 ^ min n 64)), .bool ((decide (n ≤ 63) && decide (x * 2 ^ n ≤ 18446744073709551615)))]) ∧ w' = w.drew := by
  rcases Nat.lt_or_ge 63 n with h | h
  · have h' : decide ((n : Int) ≤ 63) = false := decide_eq_false (by omega)
    rw [decide_eq_false (show ¬ n ≤ 63 by omega), Bool.false_and]
    go_enter Tryz.func216, Tryz.ntmps216
    go_wp2
    go_region
    all_goals go_wp2
    all_goals go_returns
    all_goals exact ⟨rfl, rfl⟩
  · have h' : decide ((n : Int) ≤ 63) = true := decide_eq_true (by omega)
    rw [decide_eq_true h, Bool.true_and, Nat.min_eq_left (by omega)]
    have hq := shl_is x hx n h
    go_enter Tryz.func216, Tryz.ntmps216
    go_wp2
    go_region
    all_goals go_wp2
    all_goals go_returns
    all_goals exact ⟨rfl, rfl⟩
end Go.Proofs.YtekenpgagfmgkaaGreat
