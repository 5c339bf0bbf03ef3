/- Numbers of 64 bits without a sign as bit vectors: what the walk's words for sums, differences, products, bits and shifts are of them. Towards the statements of package tnum (layer 3): sets of numbers by their bits, as bit vectors: sums, differences, products of two sets have the sums, differences, products of their numbers, and sums and differences are the least such sets. Towards the statements of package tnum (layer 3): a world that has grown out of another one, as a relation, and as a class for regions of open order; rules for numbers of 64 bits as bit vectors. Towards the statements of package tnum (layer 3): contracts of the functions of the program that go through no loop, for every argument: the answer, as bit vectors, and that nothing of old turns. -/
import Derived.Test.YtcbcijibgpaipaaGreatRows
import Derived.WalkKit
import Derived.WalkSpells
import Derived.Laws.BitsAllLaws
import Derived.ProofKit
import Derived.OpenShut
import Derived.BigQuiet
import Derived.Deep.QuietTactic
import Derived.Handy
import Derived.Laws.ShiftsVarLaws
section
namespace Go.Proofs.YtcbcijibgpaipaaGreat.Tn
open Go.RowKit
set_option linter.unusedVariables false

def iv (x : BitVec 64) : Int := (x.toNat : Int)
theorem iv_inj {x y : BitVec 64} (h : iv x = iv y) : x = y := by
  apply BitVec.eq_of_toNat_eq
  unfold iv at h
  omega
theorem iv_add (x y : BitVec 64) : IntKind.u64.wrap (iv x + iv y) = iv (x + y) := by
  rw [IntKind.wrap_u64, iv, iv, iv, BitVec.toNat_add]; omega
theorem iv_sub (x y : BitVec 64) : IntKind.u64.wrap (iv x - iv y) = iv (x - y) := by
  have := y.isLt
  rw [IntKind.wrap_u64, iv, iv, iv, BitVec.toNat_sub]; omega
theorem iv_and (x y : BitVec 64) : bits .and .u64 (iv x) (iv y) = iv (x &&& y) := by
  rw [iv, iv, iv, BitVec.toNat_and]; exact Go.u64_and_nat _ _ x.isLt y.isLt
theorem iv_or (x y : BitVec 64) : bits .or .u64 (iv x) (iv y) = iv (x ||| y) := by
  rw [iv, iv, iv, BitVec.toNat_or]; exact Go.u64_or_nat _ _ x.isLt y.isLt
theorem iv_xor (x y : BitVec 64) : bits .xor .u64 (iv x) (iv y) = iv (x ^^^ y) := by
  rw [iv, iv, iv, BitVec.toNat_xor]; exact Go.u64_xor_nat _ _ x.isLt y.isLt
theorem iv_andNot (x y : BitVec 64) : bits .andNot .u64 (iv x) (iv y) = iv (x &&& ~~~y) := by
  rw [iv, iv, iv, BitVec.toNat_and, BitVec.toNat_not]; exact Go.u64_andNot_nat _ _ x.isLt y.isLt
theorem iv_shl (x : BitVec 64) (n : Nat) : IntKind.u64.wrap (iv x * 2 ^ n) = iv (x <<< n) := by
  have e : ((2 ^ n : Nat) : Int) = (2 : Int) ^ n := by simp
  rw [IntKind.wrap_u64, iv, iv, BitVec.toNat_shiftLeft, Nat.shiftLeft_eq, Int.natCast_emod, Int.natCast_mul, e]; rfl
theorem iv_shr (x : BitVec 64) (n : Nat) : iv x / 2 ^ n = iv (x >>> n) := by
  have e : ((2 ^ n : Nat) : Int) = (2 : Int) ^ n := by simp
  rw [iv, iv, BitVec.toNat_ushiftRight, Nat.shiftRight_eq_div_pow, Int.natCast_ediv, e]
theorem iv_eq (x y : BitVec 64) : (iv x == iv y) = (x == y) := by
  by_cases h : x = y
  · subst h; rw [beq_self_eq_true, beq_self_eq_true]
  · rw [beq_eq_false_iff_ne.2 h]; exact beq_eq_false_iff_ne.2 fun e => h (iv_inj e)
theorem iv_ne (x y : BitVec 64) : (iv x != iv y) = (x != y) := by
  show (!(iv x == iv y)) = !(x == y)
  rw [iv_eq]
theorem iv_lt (x y : BitVec 64) : decide (iv x < iv y) = decide (x < y) := by
  by_cases h : x < y
  · have : x.toNat < y.toNat := h
    rw [decide_eq_true h, decide_eq_true (by unfold iv; omega)]
  · have : ¬ x.toNat < y.toNat := h
    rw [decide_eq_false h, decide_eq_false (by unfold iv; omega)]
end Go.Proofs.YtcbcijibgpaipaaGreat.Tn
end
section
namespace Go.Proofs.YtcbcijibgpaipaaGreat.Tn
set_option linter.unusedVariables false
namespace Tn

/-- x is one of the numbers of the set with these known bits and this mask. -/
def Has (v m x : BitVec 64) : Prop := ∀ i, i < 64 → m.getLsbD i = false → x.getLsbD i = v.getLsbD i
/-- The set may be. -/
def Ok (v m : BitVec 64) : Prop := ∀ i, i < 64 → m.getLsbD i = true → v.getLsbD i = false

theorem ok_cut (v m : BitVec 64) : Ok (v &&& ~~~m) m := fun i hi hm => by simp [hm]
theorem has_all (v m : BitVec 64) : Has v m (v ||| m) := fun i hi hm => by simp [hm]

/-- The carry into the place i. -/
def ca (i : Nat) (x y : BitVec 64) : Bool := decide (2 ^ i ≤ x.toNat % 2 ^ i + y.toNat % 2 ^ i)
/-! The least sets: each bit that is not known is one in which two answers differ. -/
/-! ### Products -/
/-! ### Bit by bit: what a loop over the places puts together -/
/-! ### The least set of some numbers -/
/-! ### Sets put together bit by bit -/
section
variable {av am bv bm v m p q : BitVec 64}
end
/-! ### Rows of numbers: what lies between two numbers that have their upper bits in common has them, too -/
theorem between {lo x hi : BitVec 64} (n : Nat) (h1 : lo.toNat ≤ x.toNat) (h2 : x.toNat ≤ hi.toNat) (e : lo.toNat / 2 ^ n = hi.toNat / 2 ^ n) (i : Nat) (hi' : n ≤ i) : x.getLsbD i = lo.getLsbD i := by
  have e2 : x.toNat / 2 ^ n = lo.toNat / 2 ^ n := Nat.le_antisymm (by rw [e]; exact Nat.div_le_div_right h2) (Nat.div_le_div_right h1)
  have k : ∀ y : BitVec 64, y.getLsbD i = (y.toNat / 2 ^ n).testBit (i - n) := fun y => by
    rw [Nat.testBit_div_two_pow]
    show y.toNat.testBit i = _
    rw [show i - n + n = i by omega]
  rw [k x, k lo, e2]

/-! ### Nothing added, nothing taken away; either way about -/
/-! ### All numbers of a set, as a loop over the places lists them -/
/-! Bits taken together: each unknown bit of the answer hangs on one bit of either. -/
end Tn
end Go.Proofs.YtcbcijibgpaipaaGreat.Tn
end
section
namespace Go.Proofs.YtcbcijibgpaipaaGreat.Tn
open Go.ChangeShapes Go.WideShapes Go.ChangeAt Go.RowKit
set_option linter.unusedVariables false

structure Gr (w w' : World) : Prop where
  below : Below w.heap.size w w'
  grown : Grown w w'
theorem Gr.refl (w : World) : Gr w w := ⟨Below.refl _ _, Grown.refl _⟩
theorem Gr.trans {a b c : World} (h : Gr a b) (k : Gr b c) : Gr a c :=
  ⟨h.below.trans (k.below.mono h.below.size), ⟨World.keptBut_trans h.grown.1 k.grown.1, fun x => (k.grown.2.1 x).trans (h.grown.2.1 x), Nat.le_trans h.grown.2.2 k.grown.2.2⟩⟩

/-- A world that has grown out of w, as one letter: for regions whose order is open and whose calls make memory. -/
structure GrBy (w : World) where
  to : World
  gr : Gr w to

theorem wp_region_gr {P : Program} {id : Nat} {Q : Exit → Act → World → Prop} {a : Act} {w : World} {l : List Oper} (hm : P.follows .mixedOrders = true) (hB : Region.lexB .any l.toArray = true)
    (h : wpQuiet P l.toArray (fun w' => ∃ p : GrBy w, w' = p.to) (fun a' => ∀ w', (∃ p : GrBy w, w' = p.to) → Q .normal a' w') l a) : (Code.region id l.toArray true).wp P Q a w :=
  wp_region_quiet (C := fun w' => ∃ p : GrBy w, w' = p.to) hm hB ⟨⟨w.drew, ⟨by go_grown, by go_grown⟩⟩, rfl⟩ (by simpa using h)

theorem calls_gr {P : Program} {f : FuncId} {args : Array Value} {w : World} {p : GrBy w} {v : Value} (h : Calls P f args p.to fun e w' => e = .returned v ∧ Gr p.to w') :
    Calls P f args p.to fun e w' => e = .returned v ∧ ∃ q : GrBy w, w' = q.to :=
  h.mono fun _ w' ⟨he, hg⟩ => ⟨he, ⟨w', p.gr.trans hg⟩, rfl⟩
end Go.Proofs.YtcbcijibgpaipaaGreat.Tn
end
section
namespace Go.Proofs.YtcbcijibgpaipaaGreat.Tn
open Go.ChangeShapes Go.WideShapes Go.ChangeAt Go.RowKit
set_option linter.unusedVariables false
set_option maxRecDepth 20000

theorem iv_shl64 (x : BitVec 64) (n : Nat) : IntKind.u64.wrap (iv x * 2 ^ min n 64) = iv (x <<< n) := by
  rw [iv_shl]
  by_cases h : n ≤ 64
  · rw [Nat.min_eq_left h]
  · rw [Nat.min_eq_right (by omega), BitVec.shiftLeft_eq_zero (by omega : 64 ≤ 64), BitVec.shiftLeft_eq_zero (by omega : 64 ≤ n)]
theorem iv_one : iv 1#64 = 1 := rfl
theorem iv_eq0 (x : BitVec 64) : (iv x == 0) = (x == 0#64) := iv_eq x 0#64
theorem iv_ne0 (x : BitVec 64) : (iv x != 0) = (x != 0#64) := iv_ne x 0#64
theorem iv_sub1 (x : BitVec 64) : IntKind.u64.wrap (iv x - 1) = iv (x - 1#64) := iv_sub x 1#64
theorem iv_shl1 (n : Nat) : IntKind.u64.wrap (2 ^ min n 64) = iv (1#64 <<< n) := by
  rw [← iv_shl64, iv_one, Int.one_mul]

theorem known_any (v m : BitVec 64) (w : World) : Calls Tryz.prog 131 #[.int .u64 (iv v), .int .u64 (iv m)] w fun e w' => e = .returned (.agg #[.int .u64 (iv (v &&& ~~~m)), .int .u64 (iv m)]) ∧ w' = w.alloc (.cells #[.int .u64 (iv (v &&& ~~~m)), .int .u64 (iv m)] 24) := by
  have r0 := @iv_andNot
  go_enter Tryz.func131, Tryz.ntmps131
  go_wp2
  go_returns
  exact ⟨rfl, rfl⟩
theorem const_any (v : BitVec 64) (w : World) : Calls Tryz.prog 54 #[.int .u64 (iv v)] w fun e w' => e = .returned (.agg #[.int .u64 (iv v), .int .u64 (iv 0#64)]) ∧ w' = w.alloc (.cells #[.int .u64 (iv v), .int .u64 (iv 0#64)] 24) := by
  go_enter Tryz.func54, Tryz.ntmps54
  go_wp2
  go_returns
  exact ⟨rfl, rfl⟩
theorem lowest_any (n : Nat) (w : World) : Calls Tryz.prog 168 #[.int .u64 (n : Int)] w fun e w' => e = .returned (.int .u64 (iv (1#64 <<< n - 1#64))) ∧ w' = w := by
  have r0 := @iv_shl1
  have r1 := @iv_sub1
  go_enter Tryz.func168, Tryz.ntmps168
  go_wp2
  go_ret
  exact ⟨rfl, rfl⟩
theorem may_any (v m : BitVec 64) (w : World) : Calls Tryz.prog 42 #[.agg #[.int .u64 (iv v), .int .u64 (iv m)]] w fun e w' => e = .returned (.bool (v &&& m == 0#64)) ∧ w' = w.alloc (.cells #[.int .u64 (iv v), .int .u64 (iv m)] 24) := by
  have r0 := @iv_and
  have r1 := @iv_eq0
  go_enter Tryz.func42, Tryz.ntmps42
  go_wp2
  go_ret
  exact ⟨rfl, rfl⟩
theorem has_any (v m x : BitVec 64) (w : World) : Calls Tryz.prog 61 #[.agg #[.int .u64 (iv v), .int .u64 (iv m)], .int .u64 (iv x)] w fun e w' => e = .returned (.bool (x &&& ~~~m == v)) ∧ w' = w.alloc (.cells #[.int .u64 (iv v), .int .u64 (iv m)] 24) := by
  have r0 := @iv_andNot
  have r1 := @iv_eq
  go_enter Tryz.func61, Tryz.ntmps61
  go_wp2
  go_ret
  exact ⟨rfl, rfl⟩
theorem add_raw (av am bv bm : BitVec 64) (w : World) : Calls Tryz.prog 204 #[.agg #[.int .u64 (iv av), .int .u64 (iv am)], .agg #[.int .u64 (iv bv), .int .u64 (iv bm)]] w fun e w' => e = .returned (.agg #[.int .u64 (iv ((av + bv) &&& ~~~((av + bv) ^^^ ((av + bv) + (am + bm)) ||| am ||| bm))), .int .u64 (iv ((av + bv) ^^^ ((av + bv) + (am + bm)) ||| am ||| bm))]) ∧ Gr w w' := by
  have r0 := @iv_xor
  have r1 := @iv_or
  have r2 := @iv_add
  go_enter Tryz.func204, Tryz.ntmps204
  go_wp2_with (first
    | (go_at_call 131; refine (known_any _ _ _).mono ?_; rintro e w' ⟨rfl, rfl⟩))
  go_returns
  exact ⟨rfl, by go_grown, by go_grown⟩
def andM (av am bv bm : BitVec 64) : BitVec 64 := (av ||| am) &&& (bv ||| bm) &&& ~~~(av &&& bv)
theorem and_any (av am bv bm : BitVec 64) (w : World) : Calls Tryz.prog 220 #[.agg #[.int .u64 (iv av), .int .u64 (iv am)], .agg #[.int .u64 (iv bv), .int .u64 (iv bm)]] w fun e w' => e = .returned (.agg #[.int .u64 (iv (av &&& bv)), .int .u64 (iv (andM av am bv bm))]) ∧ Gr w w' := by
  have r0 := @iv_and
  have r1 := @iv_or
  have r2 := @iv_andNot
  go_enter Tryz.func220, Tryz.ntmps220
  go_wp2
  go_returns
  exact ⟨rfl, by go_grown, by go_grown⟩
theorem low_any (v m : BitVec 64) (n : Nat) (w : World) : Calls Tryz.prog 79 #[.agg #[.int .u64 (iv v), .int .u64 (iv m)], .int .u64 (n : Int)] w fun e w' => e = .returned (.agg #[.int .u64 (iv (v &&& (1#64 <<< n - 1#64))), .int .u64 (iv (m &&& (1#64 <<< n - 1#64)))]) ∧ Gr w w' := by
  have r0 := @iv_and
  go_enter Tryz.func79, Tryz.ntmps79
  go_wp2_with (first
    | (go_at_call 168; refine (lowest_any _ _).mono ?_; rintro e w' ⟨rfl, rfl⟩))
  go_returns
  exact ⟨rfl, by go_grown, by go_grown⟩
end Go.Proofs.YtcbcijibgpaipaaGreat.Tn
end
