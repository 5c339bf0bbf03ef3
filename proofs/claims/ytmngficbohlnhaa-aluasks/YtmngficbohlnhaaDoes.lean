/- Towards the statements of package alu (layer 2): contracts of Does and Asks of the program, for every code and every two numbers. -/
import Derived.Test.YtmngficbohlnhaaAsks
namespace Go.Proofs.Ytmngficbohlnhaa
open Go.ChangeShapes Go.WideShapes Go.ChangeAt Go.RowKit
set_option linter.unusedVariables false

theorem low_le (wd : Bool) (x : Int) (h0 : 0 ≤ x) (h1 : x ≤ 18446744073709551615) : lowV x (sz wd) ≤ x := by
  cases wd
  · rw [show sz false = 4 from rfl, lowV4]; omega
  · rw [show sz true = 8 from rfl, lowV8]; omega
theorem low_bd (wd : Bool) (x : Int) : 0 ≤ lowV x (sz wd) ∧ lowV x (sz wd) ≤ 18446744073709551615 := by
  cases wd
  · rw [show sz false = 4 from rfl, lowV4]; omega
  · rw [show sz true = 8 from rfl, lowV8]; omega
theorem wrap_bd (x : Int) : 0 ≤ IntKind.u64.wrap x ∧ IntKind.u64.wrap x ≤ 18446744073709551615 := by
  rw [IntKind.wrap_u64]; omega
theorem or_nat (a b : Int) (ha : 0 ≤ a ∧ a ≤ 18446744073709551615) (hb : 0 ≤ b ∧ b ≤ 18446744073709551615) : bits .or .u64 a b = ((a.toNat ||| b.toNat : Nat) : Int) := by
  obtain ⟨n, rfl⟩ := Int.eq_ofNat_of_zero_le ha.1
  obtain ⟨m, rfl⟩ := Int.eq_ofNat_of_zero_le hb.1
  exact Go.u64_or_nat n m (by omega) (by omega)
theorem and_nat (a b : Int) (ha : 0 ≤ a ∧ a ≤ 18446744073709551615) (hb : 0 ≤ b ∧ b ≤ 18446744073709551615) : bits .and .u64 a b = ((a.toNat &&& b.toNat : Nat) : Int) := by
  obtain ⟨n, rfl⟩ := Int.eq_ofNat_of_zero_le ha.1
  obtain ⟨m, rfl⟩ := Int.eq_ofNat_of_zero_le hb.1
  exact Go.u64_and_nat n m (by omega) (by omega)
theorem xor_nat (a b : Int) (ha : 0 ≤ a ∧ a ≤ 18446744073709551615) (hb : 0 ≤ b ∧ b ≤ 18446744073709551615) : bits .xor .u64 a b = ((a.toNat ^^^ b.toNat : Nat) : Int) := by
  obtain ⟨n, rfl⟩ := Int.eq_ofNat_of_zero_le ha.1
  obtain ⟨m, rfl⟩ := Int.eq_ofNat_of_zero_le hb.1
  exact Go.u64_xor_nat n m (by omega) (by omega)

def inU (x : Int) : Prop := 0 ≤ x ∧ x ≤ 18446744073709551615
theorem ite_inU {p : Prop} [Decidable p] {x y : Int} (h : inU x) (k : inU y) : inU (if p then x else y) := by
  by_cases hp : p
  · rw [if_pos hp]; exact h
  · rw [if_neg hp]; exact k
theorem raw_bd (wd : Bool) (c a b : Int) (ha : 0 ≤ a ∧ a ≤ 18446744073709551615) (hb : 0 ≤ b ∧ b ≤ 18446744073709551615) : 0 ≤ rawV wd c a b ∧ rawV wd c a b ≤ 18446744073709551615 := by
  have n1 : a.toNat < 2 ^ 64 := by omega
  have n2 : b.toNat < 2 ^ 64 := by omega
  have h1 := Nat.or_lt_two_pow n1 n2
  have h2 : a.toNat &&& b.toNat < 2 ^ 64 := Nat.and_lt_two_pow _ n2
  have h3 := Nat.xor_lt_two_pow n1 n2
  have h4 : ∀ d : Int, 0 ≤ d → 0 ≤ a / d ∧ a / d ≤ 18446744073709551615 := fun d hd =>
    ⟨Int.ediv_nonneg ha.1 hd, Int.le_trans (Int.ediv_le_self _ ha.1) ha.2⟩
  have h5 : 0 ≤ a % b ∧ a % b ≤ 18446744073709551615 := by
    by_cases hz : b = 0
    · rw [hz, Int.emod_zero]; exact ha
    · have := Int.emod_nonneg a hz
      have := Int.emod_lt_of_pos a (by omega : 0 < b)
      omega
  have h6 : ∀ n : Nat, (0 : Int) ≤ 2 ^ n := fun n => Int.pow_nonneg (by omega)
  have h7 : inU (bits .or .u64 a b) := by rw [or_nat a b ha hb]; exact ⟨by omega, by omega⟩
  have h8 : inU (bits .and .u64 a b) := by rw [and_nat a b ha hb]; exact ⟨by omega, by omega⟩
  have h9 : inU (bits .xor .u64 a b) := by rw [xor_nat a b ha hb]; exact ⟨by omega, by omega⟩
  exact ite_inU (wrap_bd _) (ite_inU (wrap_bd _) (ite_inU (wrap_bd _) (ite_inU (h4 _ hb.1) (ite_inU h5 (ite_inU h7 (ite_inU h8 (ite_inU h9 (ite_inU (wrap_bd _) (ite_inU (h4 _ (h6 _)) (ite_inU (wrap_bd _) (ite_inU (wrap_bd _) hb)))))))))))

def doesV (wd : Bool) (c a b : Int) : Int := if c ≤ 12 then lowV (rawV wd c (lowV a (sz wd)) (lowV b (sz wd))) (sz wd) else 0
def errD (c : Int) : Int := if c ≤ 12 then 0 else 20
def asks (c : Int) : Bool := decide (c ≤ 13 ∧ c ≠ 8 ∧ c ≠ 9)
def asksV (wd : Bool) (c a b : Int) : Bool := if asks c then askV wd c (lowV a (sz wd)) (lowV b (sz wd)) else false
def errA (c : Int) : Int := if asks c then 0 else 20

theorem u64_bd (wd : Bool) (c a b : Int) : 0 ≤ doesV wd c a b ∧ doesV wd c a b ≤ 18446744073709551615 := by
  unfold doesV
  split
  · exact low_bd wd _
  · omega

set_option maxHeartbeats 1000000 in
theorem does0 (wd : Bool) (a b : Int) (ha : 0 ≤ a ∧ a ≤ 18446744073709551615) (hb : 0 ≤ b ∧ b ≤ 18446744073709551615) (w : World) : Calls Try.prog 8 #[.int .u8 0, .bool wd, .int .u64 a, .int .u64 b] w fun e w' => e = .returned (.tuple #[.int .u64 (doesV wd 0 a b), .int .i64 0]) ∧ Gr w w' := by
  have hl := dlook0 wd w
  have x0 := low_bd wd a
  have y0 := low_bd wd b
  obtain ⟨r0, r1⟩ := raw_bd wd 0 _ _ x0 y0
  obtain ⟨a0, a1⟩ := ha
  obtain ⟨b0, b1⟩ := hb
  go_enter Try.func8, Try.ntmps8
  go_wp2_with (first
    | (go_at_call 18; refine (sizeOf_any wd _).mono ?_; rintro e w' ⟨rfl, rfl⟩)
    | (go_at_call 19; refine (deeds_any wd _).mono ?_; rintro e w' ⟨rfl, rfl⟩)
    | (go_at_call 20; refine (low_any _ _ (by assumption) (by assumption) _).mono ?_; rintro e w' ⟨rfl, rfl⟩)
    | (go_at_call 26; refine (c26 wd _ _ x0 y0 _).mono ?_; rintro e w' ⟨rfl, rfl⟩))
  go_ret2
  exact ⟨rfl, deeds_gr wd _⟩
set_option maxHeartbeats 1000000 in
theorem does1 (wd : Bool) (a b : Int) (ha : 0 ≤ a ∧ a ≤ 18446744073709551615) (hb : 0 ≤ b ∧ b ≤ 18446744073709551615) (w : World) : Calls Try.prog 8 #[.int .u8 1, .bool wd, .int .u64 a, .int .u64 b] w fun e w' => e = .returned (.tuple #[.int .u64 (doesV wd 1 a b), .int .i64 0]) ∧ Gr w w' := by
  have hl := dlook1 wd w
  have x0 := low_bd wd a
  have y0 := low_bd wd b
  obtain ⟨r0, r1⟩ := raw_bd wd 1 _ _ x0 y0
  obtain ⟨a0, a1⟩ := ha
  obtain ⟨b0, b1⟩ := hb
  go_enter Try.func8, Try.ntmps8
  go_wp2_with (first
    | (go_at_call 18; refine (sizeOf_any wd _).mono ?_; rintro e w' ⟨rfl, rfl⟩)
    | (go_at_call 19; refine (deeds_any wd _).mono ?_; rintro e w' ⟨rfl, rfl⟩)
    | (go_at_call 20; refine (low_any _ _ (by assumption) (by assumption) _).mono ?_; rintro e w' ⟨rfl, rfl⟩)
    | (go_at_call 27; refine (c27 wd _ _ x0 y0 _).mono ?_; rintro e w' ⟨rfl, rfl⟩))
  go_ret2
  exact ⟨rfl, deeds_gr wd _⟩
set_option maxHeartbeats 1000000 in
theorem does2 (wd : Bool) (a b : Int) (ha : 0 ≤ a ∧ a ≤ 18446744073709551615) (hb : 0 ≤ b ∧ b ≤ 18446744073709551615) (w : World) : Calls Try.prog 8 #[.int .u8 2, .bool wd, .int .u64 a, .int .u64 b] w fun e w' => e = .returned (.tuple #[.int .u64 (doesV wd 2 a b), .int .i64 0]) ∧ Gr w w' := by
  have hl := dlook2 wd w
  have x0 := low_bd wd a
  have y0 := low_bd wd b
  obtain ⟨r0, r1⟩ := raw_bd wd 2 _ _ x0 y0
  obtain ⟨a0, a1⟩ := ha
  obtain ⟨b0, b1⟩ := hb
  go_enter Try.func8, Try.ntmps8
  go_wp2_with (first
    | (go_at_call 18; refine (sizeOf_any wd _).mono ?_; rintro e w' ⟨rfl, rfl⟩)
    | (go_at_call 19; refine (deeds_any wd _).mono ?_; rintro e w' ⟨rfl, rfl⟩)
    | (go_at_call 20; refine (low_any _ _ (by assumption) (by assumption) _).mono ?_; rintro e w' ⟨rfl, rfl⟩)
    | (go_at_call 28; refine (c28 wd _ _ x0 y0 _).mono ?_; rintro e w' ⟨rfl, rfl⟩))
  go_ret2
  exact ⟨rfl, deeds_gr wd _⟩
set_option maxHeartbeats 1000000 in
theorem does3 (wd : Bool) (a b : Int) (ha : 0 ≤ a ∧ a ≤ 18446744073709551615) (hb : 0 ≤ b ∧ b ≤ 18446744073709551615) (w : World) : Calls Try.prog 8 #[.int .u8 3, .bool wd, .int .u64 a, .int .u64 b] w fun e w' => e = .returned (.tuple #[.int .u64 (doesV wd 3 a b), .int .i64 0]) ∧ Gr w w' := by
  have hl := dlook3 wd w
  have x0 := low_bd wd a
  have y0 := low_bd wd b
  obtain ⟨r0, r1⟩ := raw_bd wd 3 _ _ x0 y0
  obtain ⟨a0, a1⟩ := ha
  obtain ⟨b0, b1⟩ := hb
  go_enter Try.func8, Try.ntmps8
  go_wp2_with (first
    | (go_at_call 18; refine (sizeOf_any wd _).mono ?_; rintro e w' ⟨rfl, rfl⟩)
    | (go_at_call 19; refine (deeds_any wd _).mono ?_; rintro e w' ⟨rfl, rfl⟩)
    | (go_at_call 20; refine (low_any _ _ (by assumption) (by assumption) _).mono ?_; rintro e w' ⟨rfl, rfl⟩)
    | (go_at_call 29; refine (c29 wd _ _ x0 y0 _).mono ?_; rintro e w' ⟨rfl, rfl⟩))
  go_ret2
  exact ⟨rfl, deeds_gr wd _⟩
set_option maxHeartbeats 1000000 in
theorem does4 (wd : Bool) (a b : Int) (ha : 0 ≤ a ∧ a ≤ 18446744073709551615) (hb : 0 ≤ b ∧ b ≤ 18446744073709551615) (w : World) : Calls Try.prog 8 #[.int .u8 4, .bool wd, .int .u64 a, .int .u64 b] w fun e w' => e = .returned (.tuple #[.int .u64 (doesV wd 4 a b), .int .i64 0]) ∧ Gr w w' := by
  have hl := dlook4 wd w
  have x0 := low_bd wd a
  have y0 := low_bd wd b
  obtain ⟨r0, r1⟩ := raw_bd wd 4 _ _ x0 y0
  obtain ⟨a0, a1⟩ := ha
  obtain ⟨b0, b1⟩ := hb
  go_enter Try.func8, Try.ntmps8
  go_wp2_with (first
    | (go_at_call 18; refine (sizeOf_any wd _).mono ?_; rintro e w' ⟨rfl, rfl⟩)
    | (go_at_call 19; refine (deeds_any wd _).mono ?_; rintro e w' ⟨rfl, rfl⟩)
    | (go_at_call 20; refine (low_any _ _ (by assumption) (by assumption) _).mono ?_; rintro e w' ⟨rfl, rfl⟩)
    | (go_at_call 31; refine (c31 wd _ _ x0 y0 _).mono ?_; rintro e w' ⟨rfl, rfl⟩))
  go_ret2
  exact ⟨rfl, deeds_gr wd _⟩
set_option maxHeartbeats 1000000 in
theorem does5 (wd : Bool) (a b : Int) (ha : 0 ≤ a ∧ a ≤ 18446744073709551615) (hb : 0 ≤ b ∧ b ≤ 18446744073709551615) (w : World) : Calls Try.prog 8 #[.int .u8 5, .bool wd, .int .u64 a, .int .u64 b] w fun e w' => e = .returned (.tuple #[.int .u64 (doesV wd 5 a b), .int .i64 0]) ∧ Gr w w' := by
  have hl := dlook5 wd w
  have x0 := low_bd wd a
  have y0 := low_bd wd b
  obtain ⟨r0, r1⟩ := raw_bd wd 5 _ _ x0 y0
  obtain ⟨a0, a1⟩ := ha
  obtain ⟨b0, b1⟩ := hb
  go_enter Try.func8, Try.ntmps8
  go_wp2_with (first
    | (go_at_call 18; refine (sizeOf_any wd _).mono ?_; rintro e w' ⟨rfl, rfl⟩)
    | (go_at_call 19; refine (deeds_any wd _).mono ?_; rintro e w' ⟨rfl, rfl⟩)
    | (go_at_call 20; refine (low_any _ _ (by assumption) (by assumption) _).mono ?_; rintro e w' ⟨rfl, rfl⟩)
    | (go_at_call 32; refine (c32 wd _ _ x0 y0 _).mono ?_; rintro e w' ⟨rfl, rfl⟩))
  go_ret2
  exact ⟨rfl, deeds_gr wd _⟩
set_option maxHeartbeats 1000000 in
theorem does6 (wd : Bool) (a b : Int) (ha : 0 ≤ a ∧ a ≤ 18446744073709551615) (hb : 0 ≤ b ∧ b ≤ 18446744073709551615) (w : World) : Calls Try.prog 8 #[.int .u8 6, .bool wd, .int .u64 a, .int .u64 b] w fun e w' => e = .returned (.tuple #[.int .u64 (doesV wd 6 a b), .int .i64 0]) ∧ Gr w w' := by
  have hl := dlook6 wd w
  have x0 := low_bd wd a
  have y0 := low_bd wd b
  obtain ⟨r0, r1⟩ := raw_bd wd 6 _ _ x0 y0
  obtain ⟨a0, a1⟩ := ha
  obtain ⟨b0, b1⟩ := hb
  go_enter Try.func8, Try.ntmps8
  go_wp2_with (first
    | (go_at_call 18; refine (sizeOf_any wd _).mono ?_; rintro e w' ⟨rfl, rfl⟩)
    | (go_at_call 19; refine (deeds_any wd _).mono ?_; rintro e w' ⟨rfl, rfl⟩)
    | (go_at_call 20; refine (low_any _ _ (by assumption) (by assumption) _).mono ?_; rintro e w' ⟨rfl, rfl⟩)
    | (go_at_call 34; refine (c34 wd _ _ _ x0 y0 _ (deeds_bits wd _)).mono ?_; rintro e w' ⟨rfl, rfl⟩))
  go_ret2
  exact ⟨rfl, deeds_gr wd _⟩
set_option maxHeartbeats 1000000 in
theorem does7 (wd : Bool) (a b : Int) (ha : 0 ≤ a ∧ a ≤ 18446744073709551615) (hb : 0 ≤ b ∧ b ≤ 18446744073709551615) (w : World) : Calls Try.prog 8 #[.int .u8 7, .bool wd, .int .u64 a, .int .u64 b] w fun e w' => e = .returned (.tuple #[.int .u64 (doesV wd 7 a b), .int .i64 0]) ∧ Gr w w' := by
  have hl := dlook7 wd w
  have x0 := low_bd wd a
  have y0 := low_bd wd b
  obtain ⟨r0, r1⟩ := raw_bd wd 7 _ _ x0 y0
  obtain ⟨a0, a1⟩ := ha
  obtain ⟨b0, b1⟩ := hb
  go_enter Try.func8, Try.ntmps8
  go_wp2_with (first
    | (go_at_call 18; refine (sizeOf_any wd _).mono ?_; rintro e w' ⟨rfl, rfl⟩)
    | (go_at_call 19; refine (deeds_any wd _).mono ?_; rintro e w' ⟨rfl, rfl⟩)
    | (go_at_call 20; refine (low_any _ _ (by assumption) (by assumption) _).mono ?_; rintro e w' ⟨rfl, rfl⟩)
    | (go_at_call 35; refine (c35 wd _ _ _ x0 y0 _ (deeds_bits wd _)).mono ?_; rintro e w' ⟨rfl, rfl⟩))
  go_ret2
  exact ⟨rfl, deeds_gr wd _⟩
set_option maxHeartbeats 1000000 in
theorem does8 (wd : Bool) (a b : Int) (ha : 0 ≤ a ∧ a ≤ 18446744073709551615) (hb : 0 ≤ b ∧ b ≤ 18446744073709551615) (w : World) : Calls Try.prog 8 #[.int .u8 8, .bool wd, .int .u64 a, .int .u64 b] w fun e w' => e = .returned (.tuple #[.int .u64 (doesV wd 8 a b), .int .i64 0]) ∧ Gr w w' := by
  have hl := dlook8 wd w
  have x0 := low_bd wd a
  have y0 := low_bd wd b
  obtain ⟨r0, r1⟩ := raw_bd wd 8 _ _ x0 y0
  obtain ⟨a0, a1⟩ := ha
  obtain ⟨b0, b1⟩ := hb
  go_enter Try.func8, Try.ntmps8
  go_wp2_with (first
    | (go_at_call 18; refine (sizeOf_any wd _).mono ?_; rintro e w' ⟨rfl, rfl⟩)
    | (go_at_call 19; refine (deeds_any wd _).mono ?_; rintro e w' ⟨rfl, rfl⟩)
    | (go_at_call 20; refine (low_any _ _ (by assumption) (by assumption) _).mono ?_; rintro e w' ⟨rfl, rfl⟩)
    | (go_at_call 38; refine (c38 wd _ _ x0 y0 _).mono ?_; rintro e w' ⟨rfl, rfl⟩))
  go_ret2
  exact ⟨rfl, deeds_gr wd _⟩
set_option maxHeartbeats 1000000 in
theorem does9 (wd : Bool) (a b : Int) (ha : 0 ≤ a ∧ a ≤ 18446744073709551615) (hb : 0 ≤ b ∧ b ≤ 18446744073709551615) (w : World) : Calls Try.prog 8 #[.int .u8 9, .bool wd, .int .u64 a, .int .u64 b] w fun e w' => e = .returned (.tuple #[.int .u64 (doesV wd 9 a b), .int .i64 0]) ∧ Gr w w' := by
  have hl := dlook9 wd w
  have x0 := low_bd wd a
  have y0 := low_bd wd b
  obtain ⟨r0, r1⟩ := raw_bd wd 9 _ _ x0 y0
  obtain ⟨a0, a1⟩ := ha
  obtain ⟨b0, b1⟩ := hb
  go_enter Try.func8, Try.ntmps8
  go_wp2_with (first
    | (go_at_call 18; refine (sizeOf_any wd _).mono ?_; rintro e w' ⟨rfl, rfl⟩)
    | (go_at_call 19; refine (deeds_any wd _).mono ?_; rintro e w' ⟨rfl, rfl⟩)
    | (go_at_call 20; refine (low_any _ _ (by assumption) (by assumption) _).mono ?_; rintro e w' ⟨rfl, rfl⟩)
    | (go_at_call 30; refine (c30 wd _ _ x0 y0 _).mono ?_; rintro e w' ⟨rfl, rfl⟩))
  go_ret2
  exact ⟨rfl, deeds_gr wd _⟩
set_option maxHeartbeats 1000000 in
theorem does10 (wd : Bool) (a b : Int) (ha : 0 ≤ a ∧ a ≤ 18446744073709551615) (hb : 0 ≤ b ∧ b ≤ 18446744073709551615) (w : World) : Calls Try.prog 8 #[.int .u8 10, .bool wd, .int .u64 a, .int .u64 b] w fun e w' => e = .returned (.tuple #[.int .u64 (doesV wd 10 a b), .int .i64 0]) ∧ Gr w w' := by
  have hl := dlook10 wd w
  have x0 := low_bd wd a
  have y0 := low_bd wd b
  obtain ⟨r0, r1⟩ := raw_bd wd 10 _ _ x0 y0
  obtain ⟨a0, a1⟩ := ha
  obtain ⟨b0, b1⟩ := hb
  go_enter Try.func8, Try.ntmps8
  go_wp2_with (first
    | (go_at_call 18; refine (sizeOf_any wd _).mono ?_; rintro e w' ⟨rfl, rfl⟩)
    | (go_at_call 19; refine (deeds_any wd _).mono ?_; rintro e w' ⟨rfl, rfl⟩)
    | (go_at_call 20; refine (low_any _ _ (by assumption) (by assumption) _).mono ?_; rintro e w' ⟨rfl, rfl⟩)
    | (go_at_call 33; refine (c33 wd _ _ x0 y0 _).mono ?_; rintro e w' ⟨rfl, rfl⟩))
  go_ret2
  exact ⟨rfl, deeds_gr wd _⟩
set_option maxHeartbeats 1000000 in
theorem does11 (wd : Bool) (a b : Int) (ha : 0 ≤ a ∧ a ≤ 18446744073709551615) (hb : 0 ≤ b ∧ b ≤ 18446744073709551615) (w : World) : Calls Try.prog 8 #[.int .u8 11, .bool wd, .int .u64 a, .int .u64 b] w fun e w' => e = .returned (.tuple #[.int .u64 (doesV wd 11 a b), .int .i64 0]) ∧ Gr w w' := by
  have hl := dlook11 wd w
  have x0 := low_bd wd a
  have y0 := low_bd wd b
  obtain ⟨r0, r1⟩ := raw_bd wd 11 _ _ x0 y0
  obtain ⟨a0, a1⟩ := ha
  obtain ⟨b0, b1⟩ := hb
  go_enter Try.func8, Try.ntmps8
  go_wp2_with (first
    | (go_at_call 18; refine (sizeOf_any wd _).mono ?_; rintro e w' ⟨rfl, rfl⟩)
    | (go_at_call 19; refine (deeds_any wd _).mono ?_; rintro e w' ⟨rfl, rfl⟩)
    | (go_at_call 20; refine (low_any _ _ (by assumption) (by assumption) _).mono ?_; rintro e w' ⟨rfl, rfl⟩)
    | (go_at_call 39; refine (c39 wd _ _ x0 y0 _).mono ?_; rintro e w' ⟨rfl, rfl⟩))
  go_ret2
  exact ⟨rfl, deeds_gr wd _⟩
set_option maxHeartbeats 1000000 in
theorem does12 (wd : Bool) (a b : Int) (ha : 0 ≤ a ∧ a ≤ 18446744073709551615) (hb : 0 ≤ b ∧ b ≤ 18446744073709551615) (w : World) : Calls Try.prog 8 #[.int .u8 12, .bool wd, .int .u64 a, .int .u64 b] w fun e w' => e = .returned (.tuple #[.int .u64 (doesV wd 12 a b), .int .i64 0]) ∧ Gr w w' := by
  have hl := dlook12 wd w
  have x0 := low_bd wd a
  have y0 := low_bd wd b
  obtain ⟨r0, r1⟩ := raw_bd wd 12 _ _ x0 y0
  obtain ⟨a0, a1⟩ := ha
  obtain ⟨b0, b1⟩ := hb
  go_enter Try.func8, Try.ntmps8
  go_wp2_with (first
    | (go_at_call 18; refine (sizeOf_any wd _).mono ?_; rintro e w' ⟨rfl, rfl⟩)
    | (go_at_call 19; refine (deeds_any wd _).mono ?_; rintro e w' ⟨rfl, rfl⟩)
    | (go_at_call 20; refine (low_any _ _ (by assumption) (by assumption) _).mono ?_; rintro e w' ⟨rfl, rfl⟩)
    | (go_at_call 36; refine (c36 wd _ _ _ _ x0 y0 _ (deeds_size wd _) (deeds_bits wd _)).mono ?_; rintro e w' ⟨rfl, nd, rfl⟩))
  go_ret2
  exact ⟨rfl, (deeds_gr wd _).trans (gr_drewN _ _)⟩

set_option maxHeartbeats 1000000 in
theorem does_no (wd : Bool) (c a b : Int) (hc : 13 ≤ c) (w : World) : Calls Try.prog 8 #[.int .u8 c, .bool wd, .int .u64 a, .int .u64 b] w fun e w' => e = .returned (.tuple #[.int .u64 0, .int .i64 20]) ∧ Gr w w' := by
  have hl := dlook_no wd w c (by omega)
  go_enter Try.func8, Try.ntmps8
  go_wp2_with (first
    | (go_at_call 18; refine (sizeOf_any wd _).mono ?_; rintro e w' ⟨rfl, rfl⟩)
    | (go_at_call 19; refine (deeds_any wd _).mono ?_; rintro e w' ⟨rfl, rfl⟩))
  go_ret2
  exact ⟨rfl, deeds_gr wd _⟩

theorem does_any (wd : Bool) (c a b : Int) (hc : 0 ≤ c) (ha : 0 ≤ a ∧ a ≤ 18446744073709551615) (hb : 0 ≤ b ∧ b ≤ 18446744073709551615) (w : World) : Calls Try.prog 8 #[.int .u8 c, .bool wd, .int .u64 a, .int .u64 b] w fun e w' => e = .returned (.tuple #[.int .u64 (doesV wd c a b), .int .i64 (errD c)]) ∧ Gr w w' := by
  by_cases h : 13 ≤ c
  · rw [doesV, if_neg (by omega), errD, if_neg (by omega)]
    exact does_no wd c a b h w
  · rcases (by omega : c = 0 ∨ c = 1 ∨ c = 2 ∨ c = 3 ∨ c = 4 ∨ c = 5 ∨ c = 6 ∨ c = 7 ∨ c = 8 ∨ c = 9 ∨ c = 10 ∨ c = 11 ∨ c = 12) with rfl | rfl | rfl | rfl | rfl | rfl | rfl | rfl | rfl | rfl | rfl | rfl | rfl
    · exact does0 wd a b ha hb w
    · exact does1 wd a b ha hb w
    · exact does2 wd a b ha hb w
    · exact does3 wd a b ha hb w
    · exact does4 wd a b ha hb w
    · exact does5 wd a b ha hb w
    · exact does6 wd a b ha hb w
    · exact does7 wd a b ha hb w
    · exact does8 wd a b ha hb w
    · exact does9 wd a b ha hb w
    · exact does10 wd a b ha hb w
    · exact does11 wd a b ha hb w
    · exact does12 wd a b ha hb w
theorem cell_drewN (w : World) (x : Addr) : ∀ n, (w.drewN n).cell? x = w.cell? x
  | 0 => rfl
  | n + 1 => cell_drewN w x n
theorem asks_cell (wd : Bool) (w : World) (n : Nat) : ((asksW wd w).drewN n).cell? ⟨w.heap.size, 0, none⟩ = some (.int .i64 (sz wd)) := by
  rw [cell_drewN]; exact asks_size wd w

set_option maxHeartbeats 1000000 in
theorem asks0 (wd : Bool) (a b : Int) (ha : 0 ≤ a ∧ a ≤ 18446744073709551615) (hb : 0 ≤ b ∧ b ≤ 18446744073709551615) (w : World) : Calls Try.prog 10 #[.int .u8 0, .bool wd, .int .u64 a, .int .u64 b] w fun e w' => e = .returned (.tuple #[.bool (asksV wd 0 a b), .int .i64 0]) ∧ Gr w w' := by
  have hl := qlook0 wd w
  have hz : ∀ n, ((asksW wd w).drewN n).cell? ⟨w.heap.size, 0, none⟩ = some (.int .i64 (sz wd)) := fun n => asks_cell wd w n
  have x0 := low_bd wd a
  have y0 := low_bd wd b
  obtain ⟨a0, a1⟩ := ha
  obtain ⟨b0, b1⟩ := hb
  go_enter Try.func10, Try.ntmps10
  go_wp2_with (first
    | (go_at_call 18; refine (sizeOf_any wd _).mono ?_; rintro e w' ⟨rfl, rfl⟩)
    | (go_at_call 25; refine (questions_any wd _).mono ?_; rintro e w' ⟨rfl, rfl⟩)
    | (go_at_call 20; refine (low_any _ _ (by assumption) (by assumption) _).mono ?_; rintro e w' ⟨rfl, rfl⟩)
    | (go_at_call 45; refine (c45 wd _ _ x0 y0 _).mono ?_; rintro e w' ⟨rfl, rfl⟩))
  go_ret2
  exact ⟨rfl, asks_gr wd _⟩
set_option maxHeartbeats 1000000 in
theorem asks1 (wd : Bool) (a b : Int) (ha : 0 ≤ a ∧ a ≤ 18446744073709551615) (hb : 0 ≤ b ∧ b ≤ 18446744073709551615) (w : World) : Calls Try.prog 10 #[.int .u8 1, .bool wd, .int .u64 a, .int .u64 b] w fun e w' => e = .returned (.tuple #[.bool (asksV wd 1 a b), .int .i64 0]) ∧ Gr w w' := by
  have hl := qlook1 wd w
  have hz : ∀ n, ((asksW wd w).drewN n).cell? ⟨w.heap.size, 0, none⟩ = some (.int .i64 (sz wd)) := fun n => asks_cell wd w n
  have x0 := low_bd wd a
  have y0 := low_bd wd b
  obtain ⟨a0, a1⟩ := ha
  obtain ⟨b0, b1⟩ := hb
  go_enter Try.func10, Try.ntmps10
  go_wp2_with (first
    | (go_at_call 18; refine (sizeOf_any wd _).mono ?_; rintro e w' ⟨rfl, rfl⟩)
    | (go_at_call 25; refine (questions_any wd _).mono ?_; rintro e w' ⟨rfl, rfl⟩)
    | (go_at_call 20; refine (low_any _ _ (by assumption) (by assumption) _).mono ?_; rintro e w' ⟨rfl, rfl⟩)
    | (go_at_call 46; refine (c46 wd _ _ x0 y0 _).mono ?_; rintro e w' ⟨rfl, rfl⟩))
  go_ret2
  exact ⟨rfl, asks_gr wd _⟩
set_option maxHeartbeats 1000000 in
theorem asks2 (wd : Bool) (a b : Int) (ha : 0 ≤ a ∧ a ≤ 18446744073709551615) (hb : 0 ≤ b ∧ b ≤ 18446744073709551615) (w : World) : Calls Try.prog 10 #[.int .u8 2, .bool wd, .int .u64 a, .int .u64 b] w fun e w' => e = .returned (.tuple #[.bool (asksV wd 2 a b), .int .i64 0]) ∧ Gr w w' := by
  have hl := qlook2 wd w
  have hz : ∀ n, ((asksW wd w).drewN n).cell? ⟨w.heap.size, 0, none⟩ = some (.int .i64 (sz wd)) := fun n => asks_cell wd w n
  have x0 := low_bd wd a
  have y0 := low_bd wd b
  obtain ⟨a0, a1⟩ := ha
  obtain ⟨b0, b1⟩ := hb
  go_enter Try.func10, Try.ntmps10
  go_wp2_with (first
    | (go_at_call 18; refine (sizeOf_any wd _).mono ?_; rintro e w' ⟨rfl, rfl⟩)
    | (go_at_call 25; refine (questions_any wd _).mono ?_; rintro e w' ⟨rfl, rfl⟩)
    | (go_at_call 20; refine (low_any _ _ (by assumption) (by assumption) _).mono ?_; rintro e w' ⟨rfl, rfl⟩)
    | (go_at_call 49; refine (c49 wd _ _ x0 y0 _).mono ?_; rintro e w' ⟨rfl, rfl⟩))
  go_ret2
  exact ⟨rfl, asks_gr wd _⟩
set_option maxHeartbeats 1000000 in
theorem asks3 (wd : Bool) (a b : Int) (ha : 0 ≤ a ∧ a ≤ 18446744073709551615) (hb : 0 ≤ b ∧ b ≤ 18446744073709551615) (w : World) : Calls Try.prog 10 #[.int .u8 3, .bool wd, .int .u64 a, .int .u64 b] w fun e w' => e = .returned (.tuple #[.bool (asksV wd 3 a b), .int .i64 0]) ∧ Gr w w' := by
  have hl := qlook3 wd w
  have hz : ∀ n, ((asksW wd w).drewN n).cell? ⟨w.heap.size, 0, none⟩ = some (.int .i64 (sz wd)) := fun n => asks_cell wd w n
  have x0 := low_bd wd a
  have y0 := low_bd wd b
  obtain ⟨a0, a1⟩ := ha
  obtain ⟨b0, b1⟩ := hb
  go_enter Try.func10, Try.ntmps10
  go_wp2_with (first
    | (go_at_call 18; refine (sizeOf_any wd _).mono ?_; rintro e w' ⟨rfl, rfl⟩)
    | (go_at_call 25; refine (questions_any wd _).mono ?_; rintro e w' ⟨rfl, rfl⟩)
    | (go_at_call 20; refine (low_any _ _ (by assumption) (by assumption) _).mono ?_; rintro e w' ⟨rfl, rfl⟩)
    | (go_at_call 51; refine (c51 wd _ _ x0 y0 _).mono ?_; rintro e w' ⟨rfl, rfl⟩))
  go_ret2
  exact ⟨rfl, asks_gr wd _⟩
set_option maxHeartbeats 1000000 in
theorem asks4 (wd : Bool) (a b : Int) (ha : 0 ≤ a ∧ a ≤ 18446744073709551615) (hb : 0 ≤ b ∧ b ≤ 18446744073709551615) (w : World) : Calls Try.prog 10 #[.int .u8 4, .bool wd, .int .u64 a, .int .u64 b] w fun e w' => e = .returned (.tuple #[.bool (asksV wd 4 a b), .int .i64 0]) ∧ Gr w w' := by
  have hl := qlook4 wd w
  have hz : ∀ n, ((asksW wd w).drewN n).cell? ⟨w.heap.size, 0, none⟩ = some (.int .i64 (sz wd)) := fun n => asks_cell wd w n
  have x0 := low_bd wd a
  have y0 := low_bd wd b
  obtain ⟨a0, a1⟩ := ha
  obtain ⟨b0, b1⟩ := hb
  go_enter Try.func10, Try.ntmps10
  go_wp2_with (first
    | (go_at_call 18; refine (sizeOf_any wd _).mono ?_; rintro e w' ⟨rfl, rfl⟩)
    | (go_at_call 25; refine (questions_any wd _).mono ?_; rintro e w' ⟨rfl, rfl⟩)
    | (go_at_call 20; refine (low_any _ _ (by assumption) (by assumption) _).mono ?_; rintro e w' ⟨rfl, rfl⟩)
    | (go_at_call 48; refine (c48 wd _ _ x0 y0 _).mono ?_; rintro e w' ⟨rfl, rfl⟩))
  go_ret2
  exact ⟨rfl, asks_gr wd _⟩
set_option maxHeartbeats 1000000 in
theorem asks5 (wd : Bool) (a b : Int) (ha : 0 ≤ a ∧ a ≤ 18446744073709551615) (hb : 0 ≤ b ∧ b ≤ 18446744073709551615) (w : World) : Calls Try.prog 10 #[.int .u8 5, .bool wd, .int .u64 a, .int .u64 b] w fun e w' => e = .returned (.tuple #[.bool (asksV wd 5 a b), .int .i64 0]) ∧ Gr w w' := by
  have hl := qlook5 wd w
  have hz : ∀ n, ((asksW wd w).drewN n).cell? ⟨w.heap.size, 0, none⟩ = some (.int .i64 (sz wd)) := fun n => asks_cell wd w n
  have x0 := low_bd wd a
  have y0 := low_bd wd b
  obtain ⟨a0, a1⟩ := ha
  obtain ⟨b0, b1⟩ := hb
  go_enter Try.func10, Try.ntmps10
  go_wp2_with (first
    | (go_at_call 18; refine (sizeOf_any wd _).mono ?_; rintro e w' ⟨rfl, rfl⟩)
    | (go_at_call 25; refine (questions_any wd _).mono ?_; rintro e w' ⟨rfl, rfl⟩)
    | (go_at_call 20; refine (low_any _ _ (by assumption) (by assumption) _).mono ?_; rintro e w' ⟨rfl, rfl⟩)
    | (go_at_call 47; refine (c47 wd _ _ x0 y0 _).mono ?_; rintro e w' ⟨rfl, rfl⟩))
  go_ret2
  exact ⟨rfl, asks_gr wd _⟩
set_option maxHeartbeats 1000000 in
theorem asks6 (wd : Bool) (a b : Int) (ha : 0 ≤ a ∧ a ≤ 18446744073709551615) (hb : 0 ≤ b ∧ b ≤ 18446744073709551615) (w : World) : Calls Try.prog 10 #[.int .u8 6, .bool wd, .int .u64 a, .int .u64 b] w fun e w' => e = .returned (.tuple #[.bool (asksV wd 6 a b), .int .i64 0]) ∧ Gr w w' := by
  have hl := qlook6 wd w
  have hz : ∀ n, ((asksW wd w).drewN n).cell? ⟨w.heap.size, 0, none⟩ = some (.int .i64 (sz wd)) := fun n => asks_cell wd w n
  have x0 := low_bd wd a
  have y0 := low_bd wd b
  obtain ⟨a0, a1⟩ := ha
  obtain ⟨b0, b1⟩ := hb
  go_enter Try.func10, Try.ntmps10
  go_wp2_with (first
    | (go_at_call 18; refine (sizeOf_any wd _).mono ?_; rintro e w' ⟨rfl, rfl⟩)
    | (go_at_call 25; refine (questions_any wd _).mono ?_; rintro e w' ⟨rfl, rfl⟩)
    | (go_at_call 20; refine (low_any _ _ (by assumption) (by assumption) _).mono ?_; rintro e w' ⟨rfl, rfl⟩)
    | (go_at_call 54; refine (c54 wd _ _ _ _ x0 y0 _ hz (asks_sign wd _)).mono ?_; rintro e w' ⟨rfl, nd, rfl⟩))
  go_ret2
  exact ⟨rfl, (asks_gr wd _).trans (gr_drewN _ _)⟩
set_option maxHeartbeats 1000000 in
theorem asks7 (wd : Bool) (a b : Int) (ha : 0 ≤ a ∧ a ≤ 18446744073709551615) (hb : 0 ≤ b ∧ b ≤ 18446744073709551615) (w : World) : Calls Try.prog 10 #[.int .u8 7, .bool wd, .int .u64 a, .int .u64 b] w fun e w' => e = .returned (.tuple #[.bool (asksV wd 7 a b), .int .i64 0]) ∧ Gr w w' := by
  have hl := qlook7 wd w
  have hz : ∀ n, ((asksW wd w).drewN n).cell? ⟨w.heap.size, 0, none⟩ = some (.int .i64 (sz wd)) := fun n => asks_cell wd w n
  have x0 := low_bd wd a
  have y0 := low_bd wd b
  obtain ⟨a0, a1⟩ := ha
  obtain ⟨b0, b1⟩ := hb
  go_enter Try.func10, Try.ntmps10
  go_wp2_with (first
    | (go_at_call 18; refine (sizeOf_any wd _).mono ?_; rintro e w' ⟨rfl, rfl⟩)
    | (go_at_call 25; refine (questions_any wd _).mono ?_; rintro e w' ⟨rfl, rfl⟩)
    | (go_at_call 20; refine (low_any _ _ (by assumption) (by assumption) _).mono ?_; rintro e w' ⟨rfl, rfl⟩)
    | (go_at_call 56; refine (c56 wd _ _ _ _ x0 y0 _ hz (asks_sign wd _)).mono ?_; rintro e w' ⟨rfl, nd, rfl⟩))
  go_ret2
  exact ⟨rfl, (asks_gr wd _).trans (gr_drewN _ _)⟩
set_option maxHeartbeats 1000000 in
theorem asks10 (wd : Bool) (a b : Int) (ha : 0 ≤ a ∧ a ≤ 18446744073709551615) (hb : 0 ≤ b ∧ b ≤ 18446744073709551615) (w : World) : Calls Try.prog 10 #[.int .u8 10, .bool wd, .int .u64 a, .int .u64 b] w fun e w' => e = .returned (.tuple #[.bool (asksV wd 10 a b), .int .i64 0]) ∧ Gr w w' := by
  have hl := qlook10 wd w
  have hz : ∀ n, ((asksW wd w).drewN n).cell? ⟨w.heap.size, 0, none⟩ = some (.int .i64 (sz wd)) := fun n => asks_cell wd w n
  have x0 := low_bd wd a
  have y0 := low_bd wd b
  obtain ⟨a0, a1⟩ := ha
  obtain ⟨b0, b1⟩ := hb
  go_enter Try.func10, Try.ntmps10
  go_wp2_with (first
    | (go_at_call 18; refine (sizeOf_any wd _).mono ?_; rintro e w' ⟨rfl, rfl⟩)
    | (go_at_call 25; refine (questions_any wd _).mono ?_; rintro e w' ⟨rfl, rfl⟩)
    | (go_at_call 20; refine (low_any _ _ (by assumption) (by assumption) _).mono ?_; rintro e w' ⟨rfl, rfl⟩)
    | (go_at_call 52; refine (c52 wd _ _ x0 y0 _).mono ?_; rintro e w' ⟨rfl, rfl⟩))
  go_ret2
  exact ⟨rfl, asks_gr wd _⟩
set_option maxHeartbeats 1000000 in
theorem asks11 (wd : Bool) (a b : Int) (ha : 0 ≤ a ∧ a ≤ 18446744073709551615) (hb : 0 ≤ b ∧ b ≤ 18446744073709551615) (w : World) : Calls Try.prog 10 #[.int .u8 11, .bool wd, .int .u64 a, .int .u64 b] w fun e w' => e = .returned (.tuple #[.bool (asksV wd 11 a b), .int .i64 0]) ∧ Gr w w' := by
  have hl := qlook11 wd w
  have hz : ∀ n, ((asksW wd w).drewN n).cell? ⟨w.heap.size, 0, none⟩ = some (.int .i64 (sz wd)) := fun n => asks_cell wd w n
  have x0 := low_bd wd a
  have y0 := low_bd wd b
  obtain ⟨a0, a1⟩ := ha
  obtain ⟨b0, b1⟩ := hb
  go_enter Try.func10, Try.ntmps10
  go_wp2_with (first
    | (go_at_call 18; refine (sizeOf_any wd _).mono ?_; rintro e w' ⟨rfl, rfl⟩)
    | (go_at_call 25; refine (questions_any wd _).mono ?_; rintro e w' ⟨rfl, rfl⟩)
    | (go_at_call 20; refine (low_any _ _ (by assumption) (by assumption) _).mono ?_; rintro e w' ⟨rfl, rfl⟩)
    | (go_at_call 53; refine (c53 wd _ _ x0 y0 _).mono ?_; rintro e w' ⟨rfl, rfl⟩))
  go_ret2
  exact ⟨rfl, asks_gr wd _⟩
set_option maxHeartbeats 1000000 in
theorem asks12 (wd : Bool) (a b : Int) (ha : 0 ≤ a ∧ a ≤ 18446744073709551615) (hb : 0 ≤ b ∧ b ≤ 18446744073709551615) (w : World) : Calls Try.prog 10 #[.int .u8 12, .bool wd, .int .u64 a, .int .u64 b] w fun e w' => e = .returned (.tuple #[.bool (asksV wd 12 a b), .int .i64 0]) ∧ Gr w w' := by
  have hl := qlook12 wd w
  have hz : ∀ n, ((asksW wd w).drewN n).cell? ⟨w.heap.size, 0, none⟩ = some (.int .i64 (sz wd)) := fun n => asks_cell wd w n
  have x0 := low_bd wd a
  have y0 := low_bd wd b
  obtain ⟨a0, a1⟩ := ha
  obtain ⟨b0, b1⟩ := hb
  go_enter Try.func10, Try.ntmps10
  go_wp2_with (first
    | (go_at_call 18; refine (sizeOf_any wd _).mono ?_; rintro e w' ⟨rfl, rfl⟩)
    | (go_at_call 25; refine (questions_any wd _).mono ?_; rintro e w' ⟨rfl, rfl⟩)
    | (go_at_call 20; refine (low_any _ _ (by assumption) (by assumption) _).mono ?_; rintro e w' ⟨rfl, rfl⟩)
    | (go_at_call 57; refine (c57 wd _ _ _ _ x0 y0 _ hz (asks_sign wd _)).mono ?_; rintro e w' ⟨rfl, nd, rfl⟩))
  go_ret2
  exact ⟨rfl, (asks_gr wd _).trans (gr_drewN _ _)⟩
set_option maxHeartbeats 1000000 in
theorem asks13 (wd : Bool) (a b : Int) (ha : 0 ≤ a ∧ a ≤ 18446744073709551615) (hb : 0 ≤ b ∧ b ≤ 18446744073709551615) (w : World) : Calls Try.prog 10 #[.int .u8 13, .bool wd, .int .u64 a, .int .u64 b] w fun e w' => e = .returned (.tuple #[.bool (asksV wd 13 a b), .int .i64 0]) ∧ Gr w w' := by
  have hl := qlook13 wd w
  have hz : ∀ n, ((asksW wd w).drewN n).cell? ⟨w.heap.size, 0, none⟩ = some (.int .i64 (sz wd)) := fun n => asks_cell wd w n
  have x0 := low_bd wd a
  have y0 := low_bd wd b
  obtain ⟨a0, a1⟩ := ha
  obtain ⟨b0, b1⟩ := hb
  go_enter Try.func10, Try.ntmps10
  go_wp2_with (first
    | (go_at_call 18; refine (sizeOf_any wd _).mono ?_; rintro e w' ⟨rfl, rfl⟩)
    | (go_at_call 25; refine (questions_any wd _).mono ?_; rintro e w' ⟨rfl, rfl⟩)
    | (go_at_call 20; refine (low_any _ _ (by assumption) (by assumption) _).mono ?_; rintro e w' ⟨rfl, rfl⟩)
    | (go_at_call 58; refine (c58 wd _ _ _ _ x0 y0 _ hz (asks_sign wd _)).mono ?_; rintro e w' ⟨rfl, nd, rfl⟩))
  go_ret2
  exact ⟨rfl, (asks_gr wd _).trans (gr_drewN _ _)⟩

set_option maxHeartbeats 1000000 in
theorem asks_no (wd : Bool) (c a b : Int) (hc : c = 8 ∨ c = 9 ∨ 14 ≤ c) (w : World) : Calls Try.prog 10 #[.int .u8 c, .bool wd, .int .u64 a, .int .u64 b] w fun e w' => e = .returned (.tuple #[.bool false, .int .i64 20]) ∧ Gr w w' := by
  have hl := qlook_no wd w c (by omega)
  clear hc
  go_enter Try.func10, Try.ntmps10
  go_wp2_with (first
    | (go_at_call 18; refine (sizeOf_any wd _).mono ?_; rintro e w' ⟨rfl, rfl⟩)
    | (go_at_call 25; refine (questions_any wd _).mono ?_; rintro e w' ⟨rfl, rfl⟩))
  go_ret2
  exact ⟨rfl, asks_gr wd _⟩

theorem asks_any (wd : Bool) (c a b : Int) (hc : 0 ≤ c) (ha : 0 ≤ a ∧ a ≤ 18446744073709551615) (hb : 0 ≤ b ∧ b ≤ 18446744073709551615) (w : World) : Calls Try.prog 10 #[.int .u8 c, .bool wd, .int .u64 a, .int .u64 b] w fun e w' => e = .returned (.tuple #[.bool (asksV wd c a b), .int .i64 (errA c)]) ∧ Gr w w' := by
  by_cases h : c = 8 ∨ c = 9 ∨ 14 ≤ c
  · have hn : asks c = false := by simp [asks]; omega
    rw [asksV, errA, hn]
    exact asks_no wd c a b h w
  · rcases (by omega : c = 0 ∨ c = 1 ∨ c = 2 ∨ c = 3 ∨ c = 4 ∨ c = 5 ∨ c = 6 ∨ c = 7 ∨ c = 10 ∨ c = 11 ∨ c = 12 ∨ c = 13) with rfl | rfl | rfl | rfl | rfl | rfl | rfl | rfl | rfl | rfl | rfl | rfl
    · exact asks0 wd a b ha hb w
    · exact asks1 wd a b ha hb w
    · exact asks2 wd a b ha hb w
    · exact asks3 wd a b ha hb w
    · exact asks4 wd a b ha hb w
    · exact asks5 wd a b ha hb w
    · exact asks6 wd a b ha hb w
    · exact asks7 wd a b ha hb w
    · exact asks10 wd a b ha hb w
    · exact asks11 wd a b ha hb w
    · exact asks12 wd a b ha hb w
    · exact asks13 wd a b ha hb w
end Go.Proofs.Ytmngficbohlnhaa
