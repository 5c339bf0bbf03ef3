/- Towards the statements of package tnum (layer 3): the program's Range and Meet in one word each; the examples' calls; regions of open order. -/
import Derived.Test.YtekenpgagfmgkaaGreatTAgreeM
namespace Go.Proofs.YtekenpgagfmgkaaGreat.Tn
open Go.ChangeShapes Go.WideShapes Go.ChangeAt Go.RowKit
set_option linter.unusedVariables false
set_option maxRecDepth 20000

theorem wp_region_by {P : Program} {id : Nat} {Q : Exit → Act → World → Prop} {a : Act} {W : World} {p : GrBy W} {l : List Oper} (hm : P.follows .mixedOrders = true) (hB : Region.lexB .any l.toArray = true)
    (h : wpQuiet P l.toArray (fun w' => ∃ q : GrBy W, w' = q.to) (fun a' => ∀ w', (∃ q : GrBy W, w' = q.to) → Q .normal a' w') l a) : (Code.region id l.toArray true).wp P Q a p.to :=
  wp_region_quiet (C := fun w' => ∃ q : GrBy W, w' = q.to) hm hB ⟨⟨p.to.drew, p.gr.drew⟩, rfl⟩ (by simpa using h)
theorem by_of {W w' : World} {p : GrBy W} (h : Gr p.to w') : ∃ q : GrBy W, w' = q.to := ⟨⟨w', p.gr.trans h⟩, rfl⟩

def rgV (lo hi : BitVec 64) : BitVec 64 := if hi < lo then 0#64 else lo &&& ~~~(rangeM lo hi)
def rgM (lo hi : BitVec 64) : BitVec 64 := if hi < lo then 1#64 <<< 64 - 1#64 else rangeM lo hi
def mtV (av am bv bm : BitVec 64) : BitVec 64 := if meetX av am bv bm then (av ||| bv) &&& ~~~(am &&& bm) else 0#64
def mtM (av am bv bm : BitVec 64) : BitVec 64 := if meetX av am bv bm then am &&& bm else 0#64
theorem range_any (lo hi : BitVec 64) (w : World) : Calls Tryz.prog 91 #[.int .u64 (iv lo), .int .u64 (iv hi)] w fun e w' => e = .returned (.agg #[.int .u64 (iv (rgV lo hi)), .int .u64 (iv (rgM lo hi))]) ∧ Gr w w' := by
  by_cases h : hi < lo
  · have := range_all lo hi (decide_eq_true h) w
    rw [rgV, rgM, if_pos h, if_pos h]; exact this
  · have := range_in lo hi (decide_eq_false h) w
    rw [rgV, rgM, if_neg h, if_neg h]; exact this
theorem meet_any (av am bv bm : BitVec 64) (w : World) : Calls Tryz.prog 58 #[.agg #[.int .u64 (iv av), .int .u64 (iv am)], .agg #[.int .u64 (iv bv), .int .u64 (iv bm)]] w fun e w' => e = .returned (.tuple #[.agg #[.int .u64 (iv (mtV av am bv bm)), .int .u64 (iv (mtM av am bv bm))], .bool (meetX av am bv bm)]) ∧ Gr w w' := by
  cases h : meetX av am bv bm
  · have := meet_no av am bv bm h w
    rw [mtV, mtM, h, if_neg (by decide), if_neg (by decide)]; exact this
  · have := meet_yes av am bv bm h w
    rw [mtV, mtM, h, if_pos rfl, if_pos rfl]; exact this
theorem cst_gr (v : BitVec 64) (w : World) : Calls Tryz.prog 46 #[.int .u64 (iv v)] w fun e w' => e = .returned (.agg #[.int .u64 (iv v), .int .u64 (iv 0#64)]) ∧ Gr w w' :=
  (const_any v w).mono fun e w' ⟨he, hw⟩ => ⟨he, hw ▸ (Gr.refl w).alloc _ _⟩
theorem may_gr (v m : BitVec 64) (w : World) : Calls Tryz.prog 35 #[.agg #[.int .u64 (iv v), .int .u64 (iv m)]] w fun e w' => e = .returned (.bool (v &&& m == 0#64)) ∧ Gr w w' :=
  (may_any v m w).mono fun e w' ⟨he, hw⟩ => ⟨he, hw ▸ (Gr.refl w).alloc _ _⟩
theorem has_gr (v m x : BitVec 64) (w : World) : Calls Tryz.prog 53 #[.agg #[.int .u64 (iv v), .int .u64 (iv m)], .int .u64 (iv x)] w fun e w' => e = .returned (.bool (x &&& ~~~m == v)) ∧ Gr w w' :=
  (has_any v m x w).mono fun e w' ⟨he, hw⟩ => ⟨he, hw ▸ (Gr.refl w).alloc _ _⟩
theorem w_add (w : World) : Calls Tryz.prog 177 #[.agg #[.int .u64 1, .int .u64 2], .agg #[.int .u64 1, .int .u64 0]] w fun e w' => e = .returned (.agg #[.int .u64 0, .int .u64 6]) ∧ Gr w w' := add_any 1#64 2#64 1#64 0#64 w
theorem w_range (w : World) : Calls Tryz.prog 91 #[.int .u64 4, .int .u64 7] w fun e w' => e = .returned (.agg #[.int .u64 4, .int .u64 3]) ∧ Gr w w' := by
  have h := range_any 4#64 7#64 w
  have q0 : rgV 4#64 7#64 = 4#64 := by decide
  have q1 : rgM 4#64 7#64 = 3#64 := by decide
  rw [q0, q1] at h
  exact h
theorem w_has5 (w : World) : Calls Tryz.prog 53 #[.agg #[.int .u64 4, .int .u64 3], .int .u64 5] w fun e w' => e = .returned (.bool true) ∧ Gr w w' := has_gr 4#64 3#64 5#64 w
theorem w_has8 (w : World) : Calls Tryz.prog 53 #[.agg #[.int .u64 4, .int .u64 3], .int .u64 8] w fun e w' => e = .returned (.bool false) ∧ Gr w w' := has_gr 4#64 3#64 8#64 w
theorem w_in (w : World) : Calls Tryz.prog 56 #[.agg #[.int .u64 4, .int .u64 1], .agg #[.int .u64 4, .int .u64 3]] w fun e w' => e = .returned (.bool true) ∧ Gr w w' := in_any 4#64 1#64 4#64 3#64 w
theorem w_may (w : World) : Calls Tryz.prog 35 #[.agg #[.int .u64 0, .int .u64 6]] w fun e w' => e = .returned (.bool true) ∧ Gr w w' := may_gr 0#64 6#64 w
theorem w_mayn (w : World) : Calls Tryz.prog 35 #[.agg #[.int .u64 1, .int .u64 1]] w fun e w' => e = .returned (.bool false) ∧ Gr w w' := may_gr 1#64 1#64 w
theorem w_const (w : World) : Calls Tryz.prog 46 #[.int .u64 9] w fun e w' => e = .returned (.agg #[.int .u64 9, .int .u64 0]) ∧ Gr w w' := cst_gr 9#64 w

end Go.Proofs.YtekenpgagfmgkaaGreat.Tn
