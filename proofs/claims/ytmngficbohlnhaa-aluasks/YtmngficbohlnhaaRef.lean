/- Towards the statements of package alu (layer 2): contracts of the document's Does and Asks, for every code and every two numbers: they answer as the program's. -/
import Derived.Test.YtmngficbohlnhaaDoes
namespace Go.Proofs.Ytmngficbohlnhaa
open Go.ChangeShapes Go.WideShapes Go.ChangeAt Go.RowKit
set_option linter.unusedVariables false

theorem rsize_any (wd : Bool) (w : World) : Calls Try.prog 21 #[.bool wd] w fun e w' => e = .returned (.int .i64 (sz wd)) ∧ w' = w := by
  cases wd
  all_goals
    go_enter Try.func21, Try.ntmps21
    go_wp2
    go_ret
    exact ⟨rfl, rfl⟩
theorem rshift_any (wd : Bool) (b : Int) (hb : 0 ≤ b ∧ b ≤ 18446744073709551615) (w : World) : Calls Try.prog 23 #[.int .u64 b, .int .i64 (sz wd)] w fun e w' => e = .returned (.int .u64 (b % (8 * sz wd))) ∧ w' = w := by
  cases wd
  · rw [show 8 * sz false = 32 from rfl, show sz false = 4 from rfl]
    go_enter Try.func23, Try.ntmps23
    go_wp2
    go_ret
    exact ⟨rfl, rfl⟩
  · rw [show 8 * sz true = 64 from rfl, show sz true = 8 from rfl]
    go_enter Try.func23, Try.ntmps23
    go_wp2
    go_ret
    exact ⟨rfl, rfl⟩

theorem shift_bd (wd : Bool) (x : Int) : 0 ≤ x % (8 * sz wd) ∧ x % (8 * sz wd) < 64 := by
  cases wd
  · rw [show 8 * sz false = 32 from rfl]; omega
  · rw [show 8 * sz true = 64 from rfl]; omega
theorem sign_bd (wd : Bool) (x : Int) : -9223372036854775808 ≤ signV x (sz wd) ∧ signV x (sz wd) ≤ 9223372036854775807 := by
  cases wd
  · rw [show sz false = 4 from rfl, signV4]; split <;> omega
  · rw [show sz true = 8 from rfl, signV8]; split <;> omega
theorem le_not (a b : Int) : decide (b ≤ a) = !decide (a < b) := by
  by_cases h : a < b
  · rw [decide_eq_false (by omega), decide_eq_true h]; rfl
  · rw [decide_eq_true (by omega), decide_eq_false h]; rfl
theorem ret_ask {k : IntKind} {a b : Bool} {a' b' : Int} (h : a = b) (h' : a' = b') : Ending.returned (.tuple #[.bool a, .int k a']) = .returned (.tuple #[.bool b, .int k b']) := by rw [h, h']

set_option maxRecDepth 100000 in
set_option maxHeartbeats 1000000 in
theorem rdoes0 (wd : Bool) (a b : Int) (ha : 0 ≤ a ∧ a ≤ 18446744073709551615) (hb : 0 ≤ b ∧ b ≤ 18446744073709551615) (w : World) : Calls Try.prog 9 #[.int .u8 0, .bool wd, .int .u64 a, .int .u64 b] w fun e w' => e = .returned (.tuple #[.int .u64 (doesV wd 0 a b), .int .i64 0]) ∧ Gr w w' := by
  have HG : Gr w w := Gr.refl w
  obtain ⟨r0, r1⟩ := raw_bd wd 0 _ _ (low_bd wd a) (low_bd wd b)
  obtain ⟨x0, x1⟩ := low_bd wd a
  obtain ⟨y0, y1⟩ := low_bd wd b
  obtain ⟨a0, a1⟩ := ha
  obtain ⟨b0, b1⟩ := hb
  change 0 ≤ IntKind.u64.wrap ((lowV a (sz wd)) + (lowV b (sz wd))) at r0
  change IntKind.u64.wrap ((lowV a (sz wd)) + (lowV b (sz wd))) ≤ _ at r1
  go_enter Try.func9, Try.ntmps9
  go_wp2_with (first
    | (go_at_call 21; refine (rsize_any wd _).mono ?_; rintro e w' ⟨rfl, rfl⟩)
    | (go_at_call 22; refine (rlow_any _ _ (by assumption) (by assumption) _).mono ?_; rintro e w' ⟨rfl, hg⟩; replace HG := HG.trans hg; clear hg)
    | (go_at_call 23; refine (rshift_any wd _ (And.intro (by assumption) (by assumption)) _).mono ?_; rintro e w' ⟨rfl, rfl⟩)
    | (go_at_call 24; refine (rsign_any _ _ (by assumption) (by assumption) _).mono ?_; rintro e w' ⟨rfl, hg⟩; replace HG := HG.trans hg; clear hg))
  go_ret2
  exact ⟨rfl, HG⟩
set_option maxRecDepth 100000 in
set_option maxHeartbeats 1000000 in
theorem rdoes1 (wd : Bool) (a b : Int) (ha : 0 ≤ a ∧ a ≤ 18446744073709551615) (hb : 0 ≤ b ∧ b ≤ 18446744073709551615) (w : World) : Calls Try.prog 9 #[.int .u8 1, .bool wd, .int .u64 a, .int .u64 b] w fun e w' => e = .returned (.tuple #[.int .u64 (doesV wd 1 a b), .int .i64 0]) ∧ Gr w w' := by
  have HG : Gr w w := Gr.refl w
  obtain ⟨r0, r1⟩ := raw_bd wd 1 _ _ (low_bd wd a) (low_bd wd b)
  obtain ⟨x0, x1⟩ := low_bd wd a
  obtain ⟨y0, y1⟩ := low_bd wd b
  obtain ⟨a0, a1⟩ := ha
  obtain ⟨b0, b1⟩ := hb
  change 0 ≤ IntKind.u64.wrap ((lowV a (sz wd)) - (lowV b (sz wd))) at r0
  change IntKind.u64.wrap ((lowV a (sz wd)) - (lowV b (sz wd))) ≤ _ at r1
  go_enter Try.func9, Try.ntmps9
  go_wp2_with (first
    | (go_at_call 21; refine (rsize_any wd _).mono ?_; rintro e w' ⟨rfl, rfl⟩)
    | (go_at_call 22; refine (rlow_any _ _ (by assumption) (by assumption) _).mono ?_; rintro e w' ⟨rfl, hg⟩; replace HG := HG.trans hg; clear hg)
    | (go_at_call 23; refine (rshift_any wd _ (And.intro (by assumption) (by assumption)) _).mono ?_; rintro e w' ⟨rfl, rfl⟩)
    | (go_at_call 24; refine (rsign_any _ _ (by assumption) (by assumption) _).mono ?_; rintro e w' ⟨rfl, hg⟩; replace HG := HG.trans hg; clear hg))
  go_ret2
  exact ⟨rfl, HG⟩
set_option maxRecDepth 100000 in
set_option maxHeartbeats 1000000 in
theorem rdoes2 (wd : Bool) (a b : Int) (ha : 0 ≤ a ∧ a ≤ 18446744073709551615) (hb : 0 ≤ b ∧ b ≤ 18446744073709551615) (w : World) : Calls Try.prog 9 #[.int .u8 2, .bool wd, .int .u64 a, .int .u64 b] w fun e w' => e = .returned (.tuple #[.int .u64 (doesV wd 2 a b), .int .i64 0]) ∧ Gr w w' := by
  have HG : Gr w w := Gr.refl w
  obtain ⟨r0, r1⟩ := raw_bd wd 2 _ _ (low_bd wd a) (low_bd wd b)
  obtain ⟨x0, x1⟩ := low_bd wd a
  obtain ⟨y0, y1⟩ := low_bd wd b
  obtain ⟨a0, a1⟩ := ha
  obtain ⟨b0, b1⟩ := hb
  change 0 ≤ IntKind.u64.wrap ((lowV a (sz wd)) * (lowV b (sz wd))) at r0
  change IntKind.u64.wrap ((lowV a (sz wd)) * (lowV b (sz wd))) ≤ _ at r1
  go_enter Try.func9, Try.ntmps9
  go_wp2_with (first
    | (go_at_call 21; refine (rsize_any wd _).mono ?_; rintro e w' ⟨rfl, rfl⟩)
    | (go_at_call 22; refine (rlow_any _ _ (by assumption) (by assumption) _).mono ?_; rintro e w' ⟨rfl, hg⟩; replace HG := HG.trans hg; clear hg)
    | (go_at_call 23; refine (rshift_any wd _ (And.intro (by assumption) (by assumption)) _).mono ?_; rintro e w' ⟨rfl, rfl⟩)
    | (go_at_call 24; refine (rsign_any _ _ (by assumption) (by assumption) _).mono ?_; rintro e w' ⟨rfl, hg⟩; replace HG := HG.trans hg; clear hg))
  go_ret2
  exact ⟨rfl, HG⟩
set_option maxRecDepth 100000 in
set_option maxHeartbeats 1000000 in
theorem rdoes4 (wd : Bool) (a b : Int) (ha : 0 ≤ a ∧ a ≤ 18446744073709551615) (hb : 0 ≤ b ∧ b ≤ 18446744073709551615) (w : World) : Calls Try.prog 9 #[.int .u8 4, .bool wd, .int .u64 a, .int .u64 b] w fun e w' => e = .returned (.tuple #[.int .u64 (doesV wd 4 a b), .int .i64 0]) ∧ Gr w w' := by
  have HG : Gr w w := Gr.refl w
  obtain ⟨r0, r1⟩ := raw_bd wd 4 _ _ (low_bd wd a) (low_bd wd b)
  obtain ⟨x0, x1⟩ := low_bd wd a
  obtain ⟨y0, y1⟩ := low_bd wd b
  obtain ⟨a0, a1⟩ := ha
  obtain ⟨b0, b1⟩ := hb
  change 0 ≤ bits .or .u64 (lowV a (sz wd)) (lowV b (sz wd)) at r0
  change bits .or .u64 (lowV a (sz wd)) (lowV b (sz wd)) ≤ _ at r1
  go_enter Try.func9, Try.ntmps9
  go_wp2_with (first
    | (go_at_call 21; refine (rsize_any wd _).mono ?_; rintro e w' ⟨rfl, rfl⟩)
    | (go_at_call 22; refine (rlow_any _ _ (by assumption) (by assumption) _).mono ?_; rintro e w' ⟨rfl, hg⟩; replace HG := HG.trans hg; clear hg)
    | (go_at_call 23; refine (rshift_any wd _ (And.intro (by assumption) (by assumption)) _).mono ?_; rintro e w' ⟨rfl, rfl⟩)
    | (go_at_call 24; refine (rsign_any _ _ (by assumption) (by assumption) _).mono ?_; rintro e w' ⟨rfl, hg⟩; replace HG := HG.trans hg; clear hg))
  go_ret2
  exact ⟨rfl, HG⟩
set_option maxRecDepth 100000 in
set_option maxHeartbeats 1000000 in
theorem rdoes5 (wd : Bool) (a b : Int) (ha : 0 ≤ a ∧ a ≤ 18446744073709551615) (hb : 0 ≤ b ∧ b ≤ 18446744073709551615) (w : World) : Calls Try.prog 9 #[.int .u8 5, .bool wd, .int .u64 a, .int .u64 b] w fun e w' => e = .returned (.tuple #[.int .u64 (doesV wd 5 a b), .int .i64 0]) ∧ Gr w w' := by
  have HG : Gr w w := Gr.refl w
  obtain ⟨r0, r1⟩ := raw_bd wd 5 _ _ (low_bd wd a) (low_bd wd b)
  obtain ⟨x0, x1⟩ := low_bd wd a
  obtain ⟨y0, y1⟩ := low_bd wd b
  obtain ⟨a0, a1⟩ := ha
  obtain ⟨b0, b1⟩ := hb
  change 0 ≤ bits .and .u64 (lowV a (sz wd)) (lowV b (sz wd)) at r0
  change bits .and .u64 (lowV a (sz wd)) (lowV b (sz wd)) ≤ _ at r1
  go_enter Try.func9, Try.ntmps9
  go_wp2_with (first
    | (go_at_call 21; refine (rsize_any wd _).mono ?_; rintro e w' ⟨rfl, rfl⟩)
    | (go_at_call 22; refine (rlow_any _ _ (by assumption) (by assumption) _).mono ?_; rintro e w' ⟨rfl, hg⟩; replace HG := HG.trans hg; clear hg)
    | (go_at_call 23; refine (rshift_any wd _ (And.intro (by assumption) (by assumption)) _).mono ?_; rintro e w' ⟨rfl, rfl⟩)
    | (go_at_call 24; refine (rsign_any _ _ (by assumption) (by assumption) _).mono ?_; rintro e w' ⟨rfl, hg⟩; replace HG := HG.trans hg; clear hg))
  go_ret2
  exact ⟨rfl, HG⟩
set_option maxRecDepth 100000 in
set_option maxHeartbeats 1000000 in
theorem rdoes10 (wd : Bool) (a b : Int) (ha : 0 ≤ a ∧ a ≤ 18446744073709551615) (hb : 0 ≤ b ∧ b ≤ 18446744073709551615) (w : World) : Calls Try.prog 9 #[.int .u8 10, .bool wd, .int .u64 a, .int .u64 b] w fun e w' => e = .returned (.tuple #[.int .u64 (doesV wd 10 a b), .int .i64 0]) ∧ Gr w w' := by
  have HG : Gr w w := Gr.refl w
  obtain ⟨r0, r1⟩ := raw_bd wd 10 _ _ (low_bd wd a) (low_bd wd b)
  obtain ⟨x0, x1⟩ := low_bd wd a
  obtain ⟨y0, y1⟩ := low_bd wd b
  obtain ⟨a0, a1⟩ := ha
  obtain ⟨b0, b1⟩ := hb
  change 0 ≤ bits .xor .u64 (lowV a (sz wd)) (lowV b (sz wd)) at r0
  change bits .xor .u64 (lowV a (sz wd)) (lowV b (sz wd)) ≤ _ at r1
  go_enter Try.func9, Try.ntmps9
  go_wp2_with (first
    | (go_at_call 21; refine (rsize_any wd _).mono ?_; rintro e w' ⟨rfl, rfl⟩)
    | (go_at_call 22; refine (rlow_any _ _ (by assumption) (by assumption) _).mono ?_; rintro e w' ⟨rfl, hg⟩; replace HG := HG.trans hg; clear hg)
    | (go_at_call 23; refine (rshift_any wd _ (And.intro (by assumption) (by assumption)) _).mono ?_; rintro e w' ⟨rfl, rfl⟩)
    | (go_at_call 24; refine (rsign_any _ _ (by assumption) (by assumption) _).mono ?_; rintro e w' ⟨rfl, hg⟩; replace HG := HG.trans hg; clear hg))
  go_ret2
  exact ⟨rfl, HG⟩
set_option maxRecDepth 100000 in
set_option maxHeartbeats 1000000 in
theorem rdoes8 (wd : Bool) (a b : Int) (ha : 0 ≤ a ∧ a ≤ 18446744073709551615) (hb : 0 ≤ b ∧ b ≤ 18446744073709551615) (w : World) : Calls Try.prog 9 #[.int .u8 8, .bool wd, .int .u64 a, .int .u64 b] w fun e w' => e = .returned (.tuple #[.int .u64 (doesV wd 8 a b), .int .i64 0]) ∧ Gr w w' := by
  have HG : Gr w w := Gr.refl w
  obtain ⟨r0, r1⟩ := raw_bd wd 8 _ _ (low_bd wd a) (low_bd wd b)
  obtain ⟨x0, x1⟩ := low_bd wd a
  obtain ⟨y0, y1⟩ := low_bd wd b
  obtain ⟨a0, a1⟩ := ha
  obtain ⟨b0, b1⟩ := hb
  change 0 ≤ IntKind.u64.wrap (-(lowV a (sz wd))) at r0
  change IntKind.u64.wrap (-(lowV a (sz wd))) ≤ _ at r1
  go_enter Try.func9, Try.ntmps9
  go_wp2_with (first
    | (go_at_call 21; refine (rsize_any wd _).mono ?_; rintro e w' ⟨rfl, rfl⟩)
    | (go_at_call 22; refine (rlow_any _ _ (by assumption) (by assumption) _).mono ?_; rintro e w' ⟨rfl, hg⟩; replace HG := HG.trans hg; clear hg)
    | (go_at_call 23; refine (rshift_any wd _ (And.intro (by assumption) (by assumption)) _).mono ?_; rintro e w' ⟨rfl, rfl⟩)
    | (go_at_call 24; refine (rsign_any _ _ (by assumption) (by assumption) _).mono ?_; rintro e w' ⟨rfl, hg⟩; replace HG := HG.trans hg; clear hg))
  go_ret2
  exact ⟨rfl, HG⟩
set_option maxRecDepth 100000 in
set_option maxHeartbeats 1000000 in
theorem rdoes11 (wd : Bool) (a b : Int) (ha : 0 ≤ a ∧ a ≤ 18446744073709551615) (hb : 0 ≤ b ∧ b ≤ 18446744073709551615) (w : World) : Calls Try.prog 9 #[.int .u8 11, .bool wd, .int .u64 a, .int .u64 b] w fun e w' => e = .returned (.tuple #[.int .u64 (doesV wd 11 a b), .int .i64 0]) ∧ Gr w w' := by
  have HG : Gr w w := Gr.refl w
  obtain ⟨r0, r1⟩ := raw_bd wd 11 _ _ (low_bd wd a) (low_bd wd b)
  obtain ⟨x0, x1⟩ := low_bd wd a
  obtain ⟨y0, y1⟩ := low_bd wd b
  obtain ⟨a0, a1⟩ := ha
  obtain ⟨b0, b1⟩ := hb
  change 0 ≤ (lowV b (sz wd)) at r0
  change (lowV b (sz wd)) ≤ _ at r1
  go_enter Try.func9, Try.ntmps9
  go_wp2_with (first
    | (go_at_call 21; refine (rsize_any wd _).mono ?_; rintro e w' ⟨rfl, rfl⟩)
    | (go_at_call 22; refine (rlow_any _ _ (by assumption) (by assumption) _).mono ?_; rintro e w' ⟨rfl, hg⟩; replace HG := HG.trans hg; clear hg)
    | (go_at_call 23; refine (rshift_any wd _ (And.intro (by assumption) (by assumption)) _).mono ?_; rintro e w' ⟨rfl, rfl⟩)
    | (go_at_call 24; refine (rsign_any _ _ (by assumption) (by assumption) _).mono ?_; rintro e w' ⟨rfl, hg⟩; replace HG := HG.trans hg; clear hg))
  go_ret2
  exact ⟨rfl, HG⟩
set_option maxRecDepth 100000 in
set_option maxHeartbeats 1000000 in
theorem rdoes6 (wd : Bool) (a b : Int) (ha : 0 ≤ a ∧ a ≤ 18446744073709551615) (hb : 0 ≤ b ∧ b ≤ 18446744073709551615) (w : World) : Calls Try.prog 9 #[.int .u8 6, .bool wd, .int .u64 a, .int .u64 b] w fun e w' => e = .returned (.tuple #[.int .u64 (doesV wd 6 a b), .int .i64 0]) ∧ Gr w w' := by
  have HG : Gr w w := Gr.refl w
  obtain ⟨r0, r1⟩ := raw_bd wd 6 _ _ (low_bd wd a) (low_bd wd b)
  obtain ⟨x0, x1⟩ := low_bd wd a
  obtain ⟨y0, y1⟩ := low_bd wd b
  obtain ⟨a0, a1⟩ := ha
  obtain ⟨b0, b1⟩ := hb
  change 0 ≤ IntKind.u64.wrap ((lowV a (sz wd)) * 2 ^ ((lowV b (sz wd)) % (8 * sz wd)).toNat) at r0
  change IntKind.u64.wrap ((lowV a (sz wd)) * 2 ^ ((lowV b (sz wd)) % (8 * sz wd)).toNat) ≤ _ at r1
  obtain ⟨s0, s1⟩ := shift_bd wd (lowV b (sz wd))
  go_enter Try.func9, Try.ntmps9
  go_wp2_with (first
    | (go_at_call 21; refine (rsize_any wd _).mono ?_; rintro e w' ⟨rfl, rfl⟩)
    | (go_at_call 22; refine (rlow_any _ _ (by assumption) (by assumption) _).mono ?_; rintro e w' ⟨rfl, hg⟩; replace HG := HG.trans hg; clear hg)
    | (go_at_call 23; refine (rshift_any wd _ (And.intro (by assumption) (by assumption)) _).mono ?_; rintro e w' ⟨rfl, rfl⟩)
    | (go_at_call 24; refine (rsign_any _ _ (by assumption) (by assumption) _).mono ?_; rintro e w' ⟨rfl, hg⟩; replace HG := HG.trans hg; clear hg))
  go_ret2
  exact ⟨rfl, HG⟩
set_option maxRecDepth 100000 in
set_option maxHeartbeats 1000000 in
theorem rdoes7 (wd : Bool) (a b : Int) (ha : 0 ≤ a ∧ a ≤ 18446744073709551615) (hb : 0 ≤ b ∧ b ≤ 18446744073709551615) (w : World) : Calls Try.prog 9 #[.int .u8 7, .bool wd, .int .u64 a, .int .u64 b] w fun e w' => e = .returned (.tuple #[.int .u64 (doesV wd 7 a b), .int .i64 0]) ∧ Gr w w' := by
  have HG : Gr w w := Gr.refl w
  obtain ⟨r0, r1⟩ := raw_bd wd 7 _ _ (low_bd wd a) (low_bd wd b)
  obtain ⟨x0, x1⟩ := low_bd wd a
  obtain ⟨y0, y1⟩ := low_bd wd b
  obtain ⟨a0, a1⟩ := ha
  obtain ⟨b0, b1⟩ := hb
  change 0 ≤ (lowV a (sz wd)) / 2 ^ ((lowV b (sz wd)) % (8 * sz wd)).toNat at r0
  change (lowV a (sz wd)) / 2 ^ ((lowV b (sz wd)) % (8 * sz wd)).toNat ≤ _ at r1
  obtain ⟨s0, s1⟩ := shift_bd wd (lowV b (sz wd))
  go_enter Try.func9, Try.ntmps9
  go_wp2_with (first
    | (go_at_call 21; refine (rsize_any wd _).mono ?_; rintro e w' ⟨rfl, rfl⟩)
    | (go_at_call 22; refine (rlow_any _ _ (by assumption) (by assumption) _).mono ?_; rintro e w' ⟨rfl, hg⟩; replace HG := HG.trans hg; clear hg)
    | (go_at_call 23; refine (rshift_any wd _ (And.intro (by assumption) (by assumption)) _).mono ?_; rintro e w' ⟨rfl, rfl⟩)
    | (go_at_call 24; refine (rsign_any _ _ (by assumption) (by assumption) _).mono ?_; rintro e w' ⟨rfl, hg⟩; replace HG := HG.trans hg; clear hg))
  go_ret2
  exact ⟨rfl, HG⟩
set_option maxRecDepth 100000 in
set_option maxHeartbeats 1000000 in
theorem rdoes12 (wd : Bool) (a b : Int) (ha : 0 ≤ a ∧ a ≤ 18446744073709551615) (hb : 0 ≤ b ∧ b ≤ 18446744073709551615) (w : World) : Calls Try.prog 9 #[.int .u8 12, .bool wd, .int .u64 a, .int .u64 b] w fun e w' => e = .returned (.tuple #[.int .u64 (doesV wd 12 a b), .int .i64 0]) ∧ Gr w w' := by
  have HG : Gr w w := Gr.refl w
  obtain ⟨r0, r1⟩ := raw_bd wd 12 _ _ (low_bd wd a) (low_bd wd b)
  obtain ⟨x0, x1⟩ := low_bd wd a
  obtain ⟨y0, y1⟩ := low_bd wd b
  obtain ⟨a0, a1⟩ := ha
  obtain ⟨b0, b1⟩ := hb
  change 0 ≤ IntKind.u64.wrap (signV (lowV a (sz wd)) (sz wd) / 2 ^ ((lowV b (sz wd)) % (8 * sz wd)).toNat) at r0
  change IntKind.u64.wrap (signV (lowV a (sz wd)) (sz wd) / 2 ^ ((lowV b (sz wd)) % (8 * sz wd)).toNat) ≤ _ at r1
  obtain ⟨s0, s1⟩ := shift_bd wd (lowV b (sz wd))
  have t0 : -9223372036854775808 ≤ signV (lowV a (sz wd)) (sz wd) ∧ signV (lowV a (sz wd)) (sz wd) ≤ 9223372036854775807 := sign_bd wd _
  go_enter Try.func9, Try.ntmps9
  go_wp2_with (first
    | (go_at_call 21; refine (rsize_any wd _).mono ?_; rintro e w' ⟨rfl, rfl⟩)
    | (go_at_call 22; refine (rlow_any _ _ (by assumption) (by assumption) _).mono ?_; rintro e w' ⟨rfl, hg⟩; replace HG := HG.trans hg; clear hg)
    | (go_at_call 23; refine (rshift_any wd _ (And.intro (by assumption) (by assumption)) _).mono ?_; rintro e w' ⟨rfl, rfl⟩)
    | (go_at_call 24; refine (rsign_any _ _ (by assumption) (by assumption) _).mono ?_; rintro e w' ⟨rfl, hg⟩; replace HG := HG.trans hg; clear hg))
  go_ret2
  exact ⟨rfl, HG⟩
set_option maxRecDepth 100000 in
set_option maxHeartbeats 1000000 in
theorem rdoes3z (wd : Bool) (a b : Int) (ha : 0 ≤ a ∧ a ≤ 18446744073709551615) (hb : 0 ≤ b ∧ b ≤ 18446744073709551615) (w : World) (hz : lowV b (sz wd) = 0) : Calls Try.prog 9 #[.int .u8 3, .bool wd, .int .u64 a, .int .u64 b] w fun e w' => e = .returned (.tuple #[.int .u64 (doesV wd 3 a b), .int .i64 0]) ∧ Gr w w' := by
  have HG : Gr w w := Gr.refl w
  obtain ⟨r0, r1⟩ := raw_bd wd 3 _ _ (low_bd wd a) (low_bd wd b)
  obtain ⟨x0, x1⟩ := low_bd wd a
  obtain ⟨y0, y1⟩ := low_bd wd b
  obtain ⟨a0, a1⟩ := ha
  obtain ⟨b0, b1⟩ := hb
  have hr : rawV wd 3 (lowV a (sz wd)) (lowV b (sz wd)) = 0 := by rw [hz]; exact Int.ediv_zero _
  have hv : Hid (doesV wd 3 a b = lowV 0 (sz wd)) := by rw [Hid, doesV, if_pos (by omega), hr]
  have z0 : (0 : Int) ≤ 0 := by omega
  have z1 : (0 : Int) ≤ 18446744073709551615 := by omega
  clear hr r0 r1
  go_enter Try.func9, Try.ntmps9
  go_wp2_with (first
    | (go_at_call 21; refine (rsize_any wd _).mono ?_; rintro e w' ⟨rfl, rfl⟩)
    | (go_at_call 22; refine (rlow_any _ _ (by assumption) (by assumption) _).mono ?_; rintro e w' ⟨rfl, hg⟩; replace HG := HG.trans hg; clear hg)
    | (go_at_call 23; refine (rshift_any wd _ (And.intro (by assumption) (by assumption)) _).mono ?_; rintro e w' ⟨rfl, rfl⟩)
    | (go_at_call 24; refine (rsign_any _ _ (by assumption) (by assumption) _).mono ?_; rintro e w' ⟨rfl, hg⟩; replace HG := HG.trans hg; clear hg))
  go_ret2
  exact ⟨ret_two hv.out.symm rfl, HG⟩
set_option maxRecDepth 100000 in
set_option maxHeartbeats 1000000 in
theorem rdoes3p (wd : Bool) (a b : Int) (ha : 0 ≤ a ∧ a ≤ 18446744073709551615) (hb : 0 ≤ b ∧ b ≤ 18446744073709551615) (w : World) (hz : 0 < lowV b (sz wd)) : Calls Try.prog 9 #[.int .u8 3, .bool wd, .int .u64 a, .int .u64 b] w fun e w' => e = .returned (.tuple #[.int .u64 (doesV wd 3 a b), .int .i64 0]) ∧ Gr w w' := by
  have HG : Gr w w := Gr.refl w
  obtain ⟨r0, r1⟩ := raw_bd wd 3 _ _ (low_bd wd a) (low_bd wd b)
  obtain ⟨x0, x1⟩ := low_bd wd a
  obtain ⟨y0, y1⟩ := low_bd wd b
  obtain ⟨a0, a1⟩ := ha
  obtain ⟨b0, b1⟩ := hb
  change 0 ≤ lowV a (sz wd) / lowV b (sz wd) at r0
  change lowV a (sz wd) / lowV b (sz wd) ≤ _ at r1
  have hn : ¬ lowV b (sz wd) = 0 := by omega
  go_enter Try.func9, Try.ntmps9
  go_wp2_with (first
    | (go_at_call 21; refine (rsize_any wd _).mono ?_; rintro e w' ⟨rfl, rfl⟩)
    | (go_at_call 22; refine (rlow_any _ _ (by assumption) (by assumption) _).mono ?_; rintro e w' ⟨rfl, hg⟩; replace HG := HG.trans hg; clear hg)
    | (go_at_call 23; refine (rshift_any wd _ (And.intro (by assumption) (by assumption)) _).mono ?_; rintro e w' ⟨rfl, rfl⟩)
    | (go_at_call 24; refine (rsign_any _ _ (by assumption) (by assumption) _).mono ?_; rintro e w' ⟨rfl, hg⟩; replace HG := HG.trans hg; clear hg))
  go_ret2
  exact ⟨rfl, HG⟩
set_option maxRecDepth 100000 in
set_option maxHeartbeats 1000000 in
theorem rdoes9z (wd : Bool) (a b : Int) (ha : 0 ≤ a ∧ a ≤ 18446744073709551615) (hb : 0 ≤ b ∧ b ≤ 18446744073709551615) (w : World) (hz : lowV b (sz wd) = 0) : Calls Try.prog 9 #[.int .u8 9, .bool wd, .int .u64 a, .int .u64 b] w fun e w' => e = .returned (.tuple #[.int .u64 (doesV wd 9 a b), .int .i64 0]) ∧ Gr w w' := by
  have HG : Gr w w := Gr.refl w
  obtain ⟨r0, r1⟩ := raw_bd wd 9 _ _ (low_bd wd a) (low_bd wd b)
  obtain ⟨x0, x1⟩ := low_bd wd a
  obtain ⟨y0, y1⟩ := low_bd wd b
  obtain ⟨a0, a1⟩ := ha
  obtain ⟨b0, b1⟩ := hb
  have hr : rawV wd 9 (lowV a (sz wd)) (lowV b (sz wd)) = lowV a (sz wd) := by rw [hz]; exact Int.emod_zero _
  have hv : Hid (doesV wd 9 a b = lowV (lowV a (sz wd)) (sz wd)) := by rw [Hid, doesV, if_pos (by omega), hr]
  clear hr r0 r1
  go_enter Try.func9, Try.ntmps9
  go_wp2_with (first
    | (go_at_call 21; refine (rsize_any wd _).mono ?_; rintro e w' ⟨rfl, rfl⟩)
    | (go_at_call 22; refine (rlow_any _ _ (by assumption) (by assumption) _).mono ?_; rintro e w' ⟨rfl, hg⟩; replace HG := HG.trans hg; clear hg)
    | (go_at_call 23; refine (rshift_any wd _ (And.intro (by assumption) (by assumption)) _).mono ?_; rintro e w' ⟨rfl, rfl⟩)
    | (go_at_call 24; refine (rsign_any _ _ (by assumption) (by assumption) _).mono ?_; rintro e w' ⟨rfl, hg⟩; replace HG := HG.trans hg; clear hg))
  go_ret2
  exact ⟨ret_two hv.out.symm rfl, HG⟩
set_option maxRecDepth 100000 in
set_option maxHeartbeats 1000000 in
theorem rdoes9p (wd : Bool) (a b : Int) (ha : 0 ≤ a ∧ a ≤ 18446744073709551615) (hb : 0 ≤ b ∧ b ≤ 18446744073709551615) (w : World) (hz : 0 < lowV b (sz wd)) : Calls Try.prog 9 #[.int .u8 9, .bool wd, .int .u64 a, .int .u64 b] w fun e w' => e = .returned (.tuple #[.int .u64 (doesV wd 9 a b), .int .i64 0]) ∧ Gr w w' := by
  have HG : Gr w w := Gr.refl w
  obtain ⟨r0, r1⟩ := raw_bd wd 9 _ _ (low_bd wd a) (low_bd wd b)
  obtain ⟨x0, x1⟩ := low_bd wd a
  obtain ⟨y0, y1⟩ := low_bd wd b
  obtain ⟨a0, a1⟩ := ha
  obtain ⟨b0, b1⟩ := hb
  change 0 ≤ lowV a (sz wd) % lowV b (sz wd) at r0
  change lowV a (sz wd) % lowV b (sz wd) ≤ _ at r1
  have hn : ¬ lowV b (sz wd) = 0 := by omega
  go_enter Try.func9, Try.ntmps9
  go_wp2_with (first
    | (go_at_call 21; refine (rsize_any wd _).mono ?_; rintro e w' ⟨rfl, rfl⟩)
    | (go_at_call 22; refine (rlow_any _ _ (by assumption) (by assumption) _).mono ?_; rintro e w' ⟨rfl, hg⟩; replace HG := HG.trans hg; clear hg)
    | (go_at_call 23; refine (rshift_any wd _ (And.intro (by assumption) (by assumption)) _).mono ?_; rintro e w' ⟨rfl, rfl⟩)
    | (go_at_call 24; refine (rsign_any _ _ (by assumption) (by assumption) _).mono ?_; rintro e w' ⟨rfl, hg⟩; replace HG := HG.trans hg; clear hg))
  go_ret2
  exact ⟨rfl, HG⟩
theorem rdoes3 (wd : Bool) (a b : Int) (ha : 0 ≤ a ∧ a ≤ 18446744073709551615) (hb : 0 ≤ b ∧ b ≤ 18446744073709551615) (w : World) : Calls Try.prog 9 #[.int .u8 3, .bool wd, .int .u64 a, .int .u64 b] w fun e w' => e = .returned (.tuple #[.int .u64 (doesV wd 3 a b), .int .i64 0]) ∧ Gr w w' := by
  have := low_bd wd b
  by_cases hz : lowV b (sz wd) = 0
  · exact rdoes3z wd a b ha hb w hz
  · exact rdoes3p wd a b ha hb w (by omega)
theorem rdoes9 (wd : Bool) (a b : Int) (ha : 0 ≤ a ∧ a ≤ 18446744073709551615) (hb : 0 ≤ b ∧ b ≤ 18446744073709551615) (w : World) : Calls Try.prog 9 #[.int .u8 9, .bool wd, .int .u64 a, .int .u64 b] w fun e w' => e = .returned (.tuple #[.int .u64 (doesV wd 9 a b), .int .i64 0]) ∧ Gr w w' := by
  have := low_bd wd b
  by_cases hz : lowV b (sz wd) = 0
  · exact rdoes9z wd a b ha hb w hz
  · exact rdoes9p wd a b ha hb w (by omega)
set_option maxRecDepth 100000 in
set_option maxHeartbeats 1000000 in
theorem rdoes_no (wd : Bool) (c a b : Int) (hc : 13 ≤ c) (ha : 0 ≤ a ∧ a ≤ 18446744073709551615) (hb : 0 ≤ b ∧ b ≤ 18446744073709551615) (w : World) : Calls Try.prog 9 #[.int .u8 c, .bool wd, .int .u64 a, .int .u64 b] w fun e w' => e = .returned (.tuple #[.int .u64 0, .int .i64 20]) ∧ Gr w w' := by
  have HG : Gr w w := Gr.refl w
  obtain ⟨x0, x1⟩ := low_bd wd a
  obtain ⟨y0, y1⟩ := low_bd wd b
  obtain ⟨a0, a1⟩ := ha
  obtain ⟨b0, b1⟩ := hb
  have n0 : (c == 0) = false := by simp; omega
  have n1 : (c == 1) = false := by simp; omega
  have n2 : (c == 2) = false := by simp; omega
  have n3 : (c == 3) = false := by simp; omega
  have n4 : (c == 4) = false := by simp; omega
  have n5 : (c == 5) = false := by simp; omega
  have n6 : (c == 6) = false := by simp; omega
  have n7 : (c == 7) = false := by simp; omega
  have n8 : (c == 8) = false := by simp; omega
  have n9 : (c == 9) = false := by simp; omega
  have n10 : (c == 10) = false := by simp; omega
  have n11 : (c == 11) = false := by simp; omega
  have n12 : (c == 12) = false := by simp; omega
  clear hc
  go_enter Try.func9, Try.ntmps9
  go_wp2_with (first
    | (go_at_call 21; refine (rsize_any wd _).mono ?_; rintro e w' ⟨rfl, rfl⟩)
    | (go_at_call 22; refine (rlow_any _ _ (by assumption) (by assumption) _).mono ?_; rintro e w' ⟨rfl, hg⟩; replace HG := HG.trans hg; clear hg)
    | (go_at_call 23; refine (rshift_any wd _ (And.intro (by assumption) (by assumption)) _).mono ?_; rintro e w' ⟨rfl, rfl⟩)
    | (go_at_call 24; refine (rsign_any _ _ (by assumption) (by assumption) _).mono ?_; rintro e w' ⟨rfl, hg⟩; replace HG := HG.trans hg; clear hg))
  go_ret2
  exact ⟨rfl, HG⟩

theorem rdoes_any (wd : Bool) (c a b : Int) (hc : 0 ≤ c) (ha : 0 ≤ a ∧ a ≤ 18446744073709551615) (hb : 0 ≤ b ∧ b ≤ 18446744073709551615) (w : World) : Calls Try.prog 9 #[.int .u8 c, .bool wd, .int .u64 a, .int .u64 b] w fun e w' => e = .returned (.tuple #[.int .u64 (doesV wd c a b), .int .i64 (errD c)]) ∧ Gr w w' := by
  by_cases h : 13 ≤ c
  · rw [doesV, if_neg (by omega), errD, if_neg (by omega)]
    exact rdoes_no wd c a b h ha hb w
  · rcases (by omega : c = 0 ∨ c = 1 ∨ c = 2 ∨ c = 3 ∨ c = 4 ∨ c = 5 ∨ c = 6 ∨ c = 7 ∨ c = 8 ∨ c = 9 ∨ c = 10 ∨ c = 11 ∨ c = 12) with rfl | rfl | rfl | rfl | rfl | rfl | rfl | rfl | rfl | rfl | rfl | rfl | rfl
    · exact rdoes0 wd a b ha hb w
    · exact rdoes1 wd a b ha hb w
    · exact rdoes2 wd a b ha hb w
    · exact rdoes3 wd a b ha hb w
    · exact rdoes4 wd a b ha hb w
    · exact rdoes5 wd a b ha hb w
    · exact rdoes6 wd a b ha hb w
    · exact rdoes7 wd a b ha hb w
    · exact rdoes8 wd a b ha hb w
    · exact rdoes9 wd a b ha hb w
    · exact rdoes10 wd a b ha hb w
    · exact rdoes11 wd a b ha hb w
    · exact rdoes12 wd a b ha hb w
set_option maxRecDepth 100000 in
set_option maxHeartbeats 1000000 in
theorem rasks0 (wd : Bool) (a b : Int) (ha : 0 ≤ a ∧ a ≤ 18446744073709551615) (hb : 0 ≤ b ∧ b ≤ 18446744073709551615) (w : World) : Calls Try.prog 11 #[.int .u8 0, .bool wd, .int .u64 a, .int .u64 b] w fun e w' => e = .returned (.tuple #[.bool (asksV wd 0 a b), .int .i64 0]) ∧ Gr w w' := by
  have HG : Gr w w := Gr.refl w
  obtain ⟨x0, x1⟩ := low_bd wd a
  obtain ⟨y0, y1⟩ := low_bd wd b
  obtain ⟨a0, a1⟩ := ha
  obtain ⟨b0, b1⟩ := hb
  go_enter Try.func11, Try.ntmps11
  go_wp2_with (first
    | (go_at_call 21; refine (rsize_any wd _).mono ?_; rintro e w' ⟨rfl, rfl⟩)
    | (go_at_call 22; refine (rlow_any _ _ (by assumption) (by assumption) _).mono ?_; rintro e w' ⟨rfl, hg⟩; replace HG := HG.trans hg; clear hg)
    | (go_at_call 23; refine (rshift_any wd _ (And.intro (by assumption) (by assumption)) _).mono ?_; rintro e w' ⟨rfl, rfl⟩)
    | (go_at_call 24; refine (rsign_any _ _ (by assumption) (by assumption) _).mono ?_; rintro e w' ⟨rfl, hg⟩; replace HG := HG.trans hg; clear hg))
  go_ret2
  exact ⟨rfl, HG⟩
set_option maxRecDepth 100000 in
set_option maxHeartbeats 1000000 in
theorem rasks1 (wd : Bool) (a b : Int) (ha : 0 ≤ a ∧ a ≤ 18446744073709551615) (hb : 0 ≤ b ∧ b ≤ 18446744073709551615) (w : World) : Calls Try.prog 11 #[.int .u8 1, .bool wd, .int .u64 a, .int .u64 b] w fun e w' => e = .returned (.tuple #[.bool (asksV wd 1 a b), .int .i64 0]) ∧ Gr w w' := by
  have HG : Gr w w := Gr.refl w
  obtain ⟨x0, x1⟩ := low_bd wd a
  obtain ⟨y0, y1⟩ := low_bd wd b
  obtain ⟨a0, a1⟩ := ha
  obtain ⟨b0, b1⟩ := hb
  go_enter Try.func11, Try.ntmps11
  go_wp2_with (first
    | (go_at_call 21; refine (rsize_any wd _).mono ?_; rintro e w' ⟨rfl, rfl⟩)
    | (go_at_call 22; refine (rlow_any _ _ (by assumption) (by assumption) _).mono ?_; rintro e w' ⟨rfl, hg⟩; replace HG := HG.trans hg; clear hg)
    | (go_at_call 23; refine (rshift_any wd _ (And.intro (by assumption) (by assumption)) _).mono ?_; rintro e w' ⟨rfl, rfl⟩)
    | (go_at_call 24; refine (rsign_any _ _ (by assumption) (by assumption) _).mono ?_; rintro e w' ⟨rfl, hg⟩; replace HG := HG.trans hg; clear hg))
  go_ret2
  exact ⟨rfl, HG⟩
set_option maxRecDepth 100000 in
set_option maxHeartbeats 1000000 in
theorem rasks2 (wd : Bool) (a b : Int) (ha : 0 ≤ a ∧ a ≤ 18446744073709551615) (hb : 0 ≤ b ∧ b ≤ 18446744073709551615) (w : World) : Calls Try.prog 11 #[.int .u8 2, .bool wd, .int .u64 a, .int .u64 b] w fun e w' => e = .returned (.tuple #[.bool (asksV wd 2 a b), .int .i64 0]) ∧ Gr w w' := by
  have HG : Gr w w := Gr.refl w
  obtain ⟨x0, x1⟩ := low_bd wd a
  obtain ⟨y0, y1⟩ := low_bd wd b
  obtain ⟨a0, a1⟩ := ha
  obtain ⟨b0, b1⟩ := hb
  go_enter Try.func11, Try.ntmps11
  go_wp2_with (first
    | (go_at_call 21; refine (rsize_any wd _).mono ?_; rintro e w' ⟨rfl, rfl⟩)
    | (go_at_call 22; refine (rlow_any _ _ (by assumption) (by assumption) _).mono ?_; rintro e w' ⟨rfl, hg⟩; replace HG := HG.trans hg; clear hg)
    | (go_at_call 23; refine (rshift_any wd _ (And.intro (by assumption) (by assumption)) _).mono ?_; rintro e w' ⟨rfl, rfl⟩)
    | (go_at_call 24; refine (rsign_any _ _ (by assumption) (by assumption) _).mono ?_; rintro e w' ⟨rfl, hg⟩; replace HG := HG.trans hg; clear hg))
  go_ret2
  exact ⟨rfl, HG⟩
set_option maxRecDepth 100000 in
set_option maxHeartbeats 1000000 in
theorem rasks3 (wd : Bool) (a b : Int) (ha : 0 ≤ a ∧ a ≤ 18446744073709551615) (hb : 0 ≤ b ∧ b ≤ 18446744073709551615) (w : World) : Calls Try.prog 11 #[.int .u8 3, .bool wd, .int .u64 a, .int .u64 b] w fun e w' => e = .returned (.tuple #[.bool (asksV wd 3 a b), .int .i64 0]) ∧ Gr w w' := by
  have HG : Gr w w := Gr.refl w
  obtain ⟨x0, x1⟩ := low_bd wd a
  obtain ⟨y0, y1⟩ := low_bd wd b
  obtain ⟨a0, a1⟩ := ha
  obtain ⟨b0, b1⟩ := hb
  go_enter Try.func11, Try.ntmps11
  go_wp2_with (first
    | (go_at_call 21; refine (rsize_any wd _).mono ?_; rintro e w' ⟨rfl, rfl⟩)
    | (go_at_call 22; refine (rlow_any _ _ (by assumption) (by assumption) _).mono ?_; rintro e w' ⟨rfl, hg⟩; replace HG := HG.trans hg; clear hg)
    | (go_at_call 23; refine (rshift_any wd _ (And.intro (by assumption) (by assumption)) _).mono ?_; rintro e w' ⟨rfl, rfl⟩)
    | (go_at_call 24; refine (rsign_any _ _ (by assumption) (by assumption) _).mono ?_; rintro e w' ⟨rfl, hg⟩; replace HG := HG.trans hg; clear hg))
  go_ret2
  exact ⟨ret_ask (le_not _ _) rfl, HG⟩
set_option maxRecDepth 100000 in
set_option maxHeartbeats 1000000 in
theorem rasks4 (wd : Bool) (a b : Int) (ha : 0 ≤ a ∧ a ≤ 18446744073709551615) (hb : 0 ≤ b ∧ b ≤ 18446744073709551615) (w : World) : Calls Try.prog 11 #[.int .u8 4, .bool wd, .int .u64 a, .int .u64 b] w fun e w' => e = .returned (.tuple #[.bool (asksV wd 4 a b), .int .i64 0]) ∧ Gr w w' := by
  have HG : Gr w w := Gr.refl w
  obtain ⟨x0, x1⟩ := low_bd wd a
  obtain ⟨y0, y1⟩ := low_bd wd b
  obtain ⟨a0, a1⟩ := ha
  obtain ⟨b0, b1⟩ := hb
  go_enter Try.func11, Try.ntmps11
  go_wp2_with (first
    | (go_at_call 21; refine (rsize_any wd _).mono ?_; rintro e w' ⟨rfl, rfl⟩)
    | (go_at_call 22; refine (rlow_any _ _ (by assumption) (by assumption) _).mono ?_; rintro e w' ⟨rfl, hg⟩; replace HG := HG.trans hg; clear hg)
    | (go_at_call 23; refine (rshift_any wd _ (And.intro (by assumption) (by assumption)) _).mono ?_; rintro e w' ⟨rfl, rfl⟩)
    | (go_at_call 24; refine (rsign_any _ _ (by assumption) (by assumption) _).mono ?_; rintro e w' ⟨rfl, hg⟩; replace HG := HG.trans hg; clear hg))
  go_ret2
  exact ⟨rfl, HG⟩
set_option maxRecDepth 100000 in
set_option maxHeartbeats 1000000 in
theorem rasks5 (wd : Bool) (a b : Int) (ha : 0 ≤ a ∧ a ≤ 18446744073709551615) (hb : 0 ≤ b ∧ b ≤ 18446744073709551615) (w : World) : Calls Try.prog 11 #[.int .u8 5, .bool wd, .int .u64 a, .int .u64 b] w fun e w' => e = .returned (.tuple #[.bool (asksV wd 5 a b), .int .i64 0]) ∧ Gr w w' := by
  have HG : Gr w w := Gr.refl w
  obtain ⟨x0, x1⟩ := low_bd wd a
  obtain ⟨y0, y1⟩ := low_bd wd b
  obtain ⟨a0, a1⟩ := ha
  obtain ⟨b0, b1⟩ := hb
  go_enter Try.func11, Try.ntmps11
  go_wp2_with (first
    | (go_at_call 21; refine (rsize_any wd _).mono ?_; rintro e w' ⟨rfl, rfl⟩)
    | (go_at_call 22; refine (rlow_any _ _ (by assumption) (by assumption) _).mono ?_; rintro e w' ⟨rfl, hg⟩; replace HG := HG.trans hg; clear hg)
    | (go_at_call 23; refine (rshift_any wd _ (And.intro (by assumption) (by assumption)) _).mono ?_; rintro e w' ⟨rfl, rfl⟩)
    | (go_at_call 24; refine (rsign_any _ _ (by assumption) (by assumption) _).mono ?_; rintro e w' ⟨rfl, hg⟩; replace HG := HG.trans hg; clear hg))
  go_ret2
  exact ⟨rfl, HG⟩
set_option maxRecDepth 100000 in
set_option maxHeartbeats 1000000 in
theorem rasks6 (wd : Bool) (a b : Int) (ha : 0 ≤ a ∧ a ≤ 18446744073709551615) (hb : 0 ≤ b ∧ b ≤ 18446744073709551615) (w : World) : Calls Try.prog 11 #[.int .u8 6, .bool wd, .int .u64 a, .int .u64 b] w fun e w' => e = .returned (.tuple #[.bool (asksV wd 6 a b), .int .i64 0]) ∧ Gr w w' := by
  have HG : Gr w w := Gr.refl w
  obtain ⟨x0, x1⟩ := low_bd wd a
  obtain ⟨y0, y1⟩ := low_bd wd b
  obtain ⟨a0, a1⟩ := ha
  obtain ⟨b0, b1⟩ := hb
  go_enter Try.func11, Try.ntmps11
  go_wp2_with (first
    | (go_at_call 21; refine (rsize_any wd _).mono ?_; rintro e w' ⟨rfl, rfl⟩)
    | (go_at_call 22; refine (rlow_any _ _ (by assumption) (by assumption) _).mono ?_; rintro e w' ⟨rfl, hg⟩; replace HG := HG.trans hg; clear hg)
    | (go_at_call 23; refine (rshift_any wd _ (And.intro (by assumption) (by assumption)) _).mono ?_; rintro e w' ⟨rfl, rfl⟩)
    | (go_at_call 24; refine (rsign_any _ _ (by assumption) (by assumption) _).mono ?_; rintro e w' ⟨rfl, hg⟩; replace HG := HG.trans hg; clear hg))
  go_ret2
  exact ⟨rfl, HG⟩
set_option maxRecDepth 100000 in
set_option maxHeartbeats 1000000 in
theorem rasks7 (wd : Bool) (a b : Int) (ha : 0 ≤ a ∧ a ≤ 18446744073709551615) (hb : 0 ≤ b ∧ b ≤ 18446744073709551615) (w : World) : Calls Try.prog 11 #[.int .u8 7, .bool wd, .int .u64 a, .int .u64 b] w fun e w' => e = .returned (.tuple #[.bool (asksV wd 7 a b), .int .i64 0]) ∧ Gr w w' := by
  have HG : Gr w w := Gr.refl w
  obtain ⟨x0, x1⟩ := low_bd wd a
  obtain ⟨y0, y1⟩ := low_bd wd b
  obtain ⟨a0, a1⟩ := ha
  obtain ⟨b0, b1⟩ := hb
  go_enter Try.func11, Try.ntmps11
  go_wp2_with (first
    | (go_at_call 21; refine (rsize_any wd _).mono ?_; rintro e w' ⟨rfl, rfl⟩)
    | (go_at_call 22; refine (rlow_any _ _ (by assumption) (by assumption) _).mono ?_; rintro e w' ⟨rfl, hg⟩; replace HG := HG.trans hg; clear hg)
    | (go_at_call 23; refine (rshift_any wd _ (And.intro (by assumption) (by assumption)) _).mono ?_; rintro e w' ⟨rfl, rfl⟩)
    | (go_at_call 24; refine (rsign_any _ _ (by assumption) (by assumption) _).mono ?_; rintro e w' ⟨rfl, hg⟩; replace HG := HG.trans hg; clear hg))
  go_ret2
  exact ⟨ret_ask (le_not _ _) rfl, HG⟩
set_option maxRecDepth 100000 in
set_option maxHeartbeats 1000000 in
theorem rasks10 (wd : Bool) (a b : Int) (ha : 0 ≤ a ∧ a ≤ 18446744073709551615) (hb : 0 ≤ b ∧ b ≤ 18446744073709551615) (w : World) : Calls Try.prog 11 #[.int .u8 10, .bool wd, .int .u64 a, .int .u64 b] w fun e w' => e = .returned (.tuple #[.bool (asksV wd 10 a b), .int .i64 0]) ∧ Gr w w' := by
  have HG : Gr w w := Gr.refl w
  obtain ⟨x0, x1⟩ := low_bd wd a
  obtain ⟨y0, y1⟩ := low_bd wd b
  obtain ⟨a0, a1⟩ := ha
  obtain ⟨b0, b1⟩ := hb
  go_enter Try.func11, Try.ntmps11
  go_wp2_with (first
    | (go_at_call 21; refine (rsize_any wd _).mono ?_; rintro e w' ⟨rfl, rfl⟩)
    | (go_at_call 22; refine (rlow_any _ _ (by assumption) (by assumption) _).mono ?_; rintro e w' ⟨rfl, hg⟩; replace HG := HG.trans hg; clear hg)
    | (go_at_call 23; refine (rshift_any wd _ (And.intro (by assumption) (by assumption)) _).mono ?_; rintro e w' ⟨rfl, rfl⟩)
    | (go_at_call 24; refine (rsign_any _ _ (by assumption) (by assumption) _).mono ?_; rintro e w' ⟨rfl, hg⟩; replace HG := HG.trans hg; clear hg))
  go_ret2
  exact ⟨rfl, HG⟩
set_option maxRecDepth 100000 in
set_option maxHeartbeats 1000000 in
theorem rasks11 (wd : Bool) (a b : Int) (ha : 0 ≤ a ∧ a ≤ 18446744073709551615) (hb : 0 ≤ b ∧ b ≤ 18446744073709551615) (w : World) : Calls Try.prog 11 #[.int .u8 11, .bool wd, .int .u64 a, .int .u64 b] w fun e w' => e = .returned (.tuple #[.bool (asksV wd 11 a b), .int .i64 0]) ∧ Gr w w' := by
  have HG : Gr w w := Gr.refl w
  obtain ⟨x0, x1⟩ := low_bd wd a
  obtain ⟨y0, y1⟩ := low_bd wd b
  obtain ⟨a0, a1⟩ := ha
  obtain ⟨b0, b1⟩ := hb
  go_enter Try.func11, Try.ntmps11
  go_wp2_with (first
    | (go_at_call 21; refine (rsize_any wd _).mono ?_; rintro e w' ⟨rfl, rfl⟩)
    | (go_at_call 22; refine (rlow_any _ _ (by assumption) (by assumption) _).mono ?_; rintro e w' ⟨rfl, hg⟩; replace HG := HG.trans hg; clear hg)
    | (go_at_call 23; refine (rshift_any wd _ (And.intro (by assumption) (by assumption)) _).mono ?_; rintro e w' ⟨rfl, rfl⟩)
    | (go_at_call 24; refine (rsign_any _ _ (by assumption) (by assumption) _).mono ?_; rintro e w' ⟨rfl, hg⟩; replace HG := HG.trans hg; clear hg))
  go_ret2
  exact ⟨ret_ask (le_not _ _) rfl, HG⟩
set_option maxRecDepth 100000 in
set_option maxHeartbeats 1000000 in
theorem rasks12 (wd : Bool) (a b : Int) (ha : 0 ≤ a ∧ a ≤ 18446744073709551615) (hb : 0 ≤ b ∧ b ≤ 18446744073709551615) (w : World) : Calls Try.prog 11 #[.int .u8 12, .bool wd, .int .u64 a, .int .u64 b] w fun e w' => e = .returned (.tuple #[.bool (asksV wd 12 a b), .int .i64 0]) ∧ Gr w w' := by
  have HG : Gr w w := Gr.refl w
  obtain ⟨x0, x1⟩ := low_bd wd a
  obtain ⟨y0, y1⟩ := low_bd wd b
  obtain ⟨a0, a1⟩ := ha
  obtain ⟨b0, b1⟩ := hb
  go_enter Try.func11, Try.ntmps11
  go_wp2_with (first
    | (go_at_call 21; refine (rsize_any wd _).mono ?_; rintro e w' ⟨rfl, rfl⟩)
    | (go_at_call 22; refine (rlow_any _ _ (by assumption) (by assumption) _).mono ?_; rintro e w' ⟨rfl, hg⟩; replace HG := HG.trans hg; clear hg)
    | (go_at_call 23; refine (rshift_any wd _ (And.intro (by assumption) (by assumption)) _).mono ?_; rintro e w' ⟨rfl, rfl⟩)
    | (go_at_call 24; refine (rsign_any _ _ (by assumption) (by assumption) _).mono ?_; rintro e w' ⟨rfl, hg⟩; replace HG := HG.trans hg; clear hg))
  go_ret2
  exact ⟨rfl, HG⟩
set_option maxRecDepth 100000 in
set_option maxHeartbeats 1000000 in
theorem rasks13 (wd : Bool) (a b : Int) (ha : 0 ≤ a ∧ a ≤ 18446744073709551615) (hb : 0 ≤ b ∧ b ≤ 18446744073709551615) (w : World) : Calls Try.prog 11 #[.int .u8 13, .bool wd, .int .u64 a, .int .u64 b] w fun e w' => e = .returned (.tuple #[.bool (asksV wd 13 a b), .int .i64 0]) ∧ Gr w w' := by
  have HG : Gr w w := Gr.refl w
  obtain ⟨x0, x1⟩ := low_bd wd a
  obtain ⟨y0, y1⟩ := low_bd wd b
  obtain ⟨a0, a1⟩ := ha
  obtain ⟨b0, b1⟩ := hb
  go_enter Try.func11, Try.ntmps11
  go_wp2_with (first
    | (go_at_call 21; refine (rsize_any wd _).mono ?_; rintro e w' ⟨rfl, rfl⟩)
    | (go_at_call 22; refine (rlow_any _ _ (by assumption) (by assumption) _).mono ?_; rintro e w' ⟨rfl, hg⟩; replace HG := HG.trans hg; clear hg)
    | (go_at_call 23; refine (rshift_any wd _ (And.intro (by assumption) (by assumption)) _).mono ?_; rintro e w' ⟨rfl, rfl⟩)
    | (go_at_call 24; refine (rsign_any _ _ (by assumption) (by assumption) _).mono ?_; rintro e w' ⟨rfl, hg⟩; replace HG := HG.trans hg; clear hg))
  go_ret2
  exact ⟨ret_ask (le_not _ _) rfl, HG⟩
set_option maxRecDepth 100000 in
set_option maxHeartbeats 1000000 in
theorem rasks_no (wd : Bool) (c a b : Int) (hc : c = 8 ∨ c = 9 ∨ 14 ≤ c) (ha : 0 ≤ a ∧ a ≤ 18446744073709551615) (hb : 0 ≤ b ∧ b ≤ 18446744073709551615) (w : World) : Calls Try.prog 11 #[.int .u8 c, .bool wd, .int .u64 a, .int .u64 b] w fun e w' => e = .returned (.tuple #[.bool false, .int .i64 20]) ∧ Gr w w' := by
  have HG : Gr w w := Gr.refl w
  obtain ⟨x0, x1⟩ := low_bd wd a
  obtain ⟨y0, y1⟩ := low_bd wd b
  obtain ⟨a0, a1⟩ := ha
  obtain ⟨b0, b1⟩ := hb
  have n0 : (c == 0) = false := by simp; omega
  have n1 : (c == 1) = false := by simp; omega
  have n2 : (c == 2) = false := by simp; omega
  have n3 : (c == 3) = false := by simp; omega
  have n4 : (c == 4) = false := by simp; omega
  have n5 : (c == 5) = false := by simp; omega
  have n6 : (c == 6) = false := by simp; omega
  have n7 : (c == 7) = false := by simp; omega
  have n10 : (c == 10) = false := by simp; omega
  have n11 : (c == 11) = false := by simp; omega
  have n12 : (c == 12) = false := by simp; omega
  have n13 : (c == 13) = false := by simp; omega
  clear hc
  go_enter Try.func11, Try.ntmps11
  go_wp2_with (first
    | (go_at_call 21; refine (rsize_any wd _).mono ?_; rintro e w' ⟨rfl, rfl⟩)
    | (go_at_call 22; refine (rlow_any _ _ (by assumption) (by assumption) _).mono ?_; rintro e w' ⟨rfl, hg⟩; replace HG := HG.trans hg; clear hg)
    | (go_at_call 23; refine (rshift_any wd _ (And.intro (by assumption) (by assumption)) _).mono ?_; rintro e w' ⟨rfl, rfl⟩)
    | (go_at_call 24; refine (rsign_any _ _ (by assumption) (by assumption) _).mono ?_; rintro e w' ⟨rfl, hg⟩; replace HG := HG.trans hg; clear hg))
  go_ret2
  exact ⟨rfl, HG⟩

theorem rasks_any (wd : Bool) (c a b : Int) (hc : 0 ≤ c) (ha : 0 ≤ a ∧ a ≤ 18446744073709551615) (hb : 0 ≤ b ∧ b ≤ 18446744073709551615) (w : World) : Calls Try.prog 11 #[.int .u8 c, .bool wd, .int .u64 a, .int .u64 b] w fun e w' => e = .returned (.tuple #[.bool (asksV wd c a b), .int .i64 (errA c)]) ∧ Gr w w' := by
  by_cases h : c = 8 ∨ c = 9 ∨ 14 ≤ c
  · have hn : asks c = false := by simp [asks]; omega
    rw [asksV, errA, hn]
    exact rasks_no wd c a b h ha hb w
  · rcases (by omega : c = 0 ∨ c = 1 ∨ c = 2 ∨ c = 3 ∨ c = 4 ∨ c = 5 ∨ c = 6 ∨ c = 7 ∨ c = 10 ∨ c = 11 ∨ c = 12 ∨ c = 13) with rfl | rfl | rfl | rfl | rfl | rfl | rfl | rfl | rfl | rfl | rfl | rfl
    · exact rasks0 wd a b ha hb w
    · exact rasks1 wd a b ha hb w
    · exact rasks2 wd a b ha hb w
    · exact rasks3 wd a b ha hb w
    · exact rasks4 wd a b ha hb w
    · exact rasks5 wd a b ha hb w
    · exact rasks6 wd a b ha hb w
    · exact rasks7 wd a b ha hb w
    · exact rasks10 wd a b ha hb w
    · exact rasks11 wd a b ha hb w
    · exact rasks12 wd a b ha hb w
    · exact rasks13 wd a b ha hb w
end Go.Proofs.Ytmngficbohlnhaa
