/- Towards the statements of package tnum (layer 3): contracts of In, Meet, Sar of the program, and of the document's bit and put, for every argument. -/
import Derived.Test.YtdhmmjphjloneabGreatTPlain
import Derived.Deep.RegionWith
namespace Go.Proofs.YtdhmmjphjloneabGreat.Tn
open Go.ChangeShapes Go.WideShapes Go.ChangeAt Go.RowKit
set_option linter.unusedVariables false
set_option maxRecDepth 20000

theorem in_any (av am bv bm : BitVec 64) (w : World) : Calls Tryz.prog 26 #[.agg #[.int .u64 (iv av), .int .u64 (iv am)], .agg #[.int .u64 (iv bv), .int .u64 (iv bm)]] w fun e w' => e = .returned (.bool (am &&& ~~~bm == 0#64 && av &&& ~~~bm == bv)) ∧ Gr w w' := by
  have r0 := @iv_andNot
  have r1 := @iv_eq0
  cases hd : (am &&& ~~~bm == 0#64)
  · go_enter Tryz.func26, Tryz.ntmps26
    go_wp2_with (first
      | (go_at_call 27; refine (has_any _ _ _ _).mono ?_; rintro e w' ⟨rfl, rfl⟩))
    go_ret
    exact ⟨rfl, by go_grown, by go_grown⟩
  · go_enter Tryz.func26, Tryz.ntmps26
    go_wp2_with (first
      | (go_at_call 27; refine (has_any _ _ _ _).mono ?_; rintro e w' ⟨rfl, rfl⟩))
    go_ret
    exact ⟨rfl, by go_grown, by go_grown⟩
def meetX (av am bv bm : BitVec 64) : Bool := (av ^^^ bv) &&& ~~~(am ||| bm) == 0#64
theorem meet_yes (av am bv bm : BitVec 64) (h : meetX av am bv bm = true) (w : World) : Calls Tryz.prog 23 #[.agg #[.int .u64 (iv av), .int .u64 (iv am)], .agg #[.int .u64 (iv bv), .int .u64 (iv bm)]] w fun e w' => e = .returned (.tuple #[.agg #[.int .u64 (iv ((av ||| bv) &&& ~~~(am &&& bm))), .int .u64 (iv (am &&& bm))], .bool true]) ∧ Gr w w' := by
  have r0 := @iv_andNot
  have r1 := @iv_and
  have r2 := @iv_or
  have r3 := @iv_xor
  have r4 := @iv_ne0
  have hd : ((av ^^^ bv) &&& ~~~(am ||| bm) != 0#64) = false := by rw [bne, show ((av ^^^ bv) &&& ~~~(am ||| bm) == 0#64) = true from h]; rfl
  clear h
  go_enter Tryz.func23, Tryz.ntmps23
  go_wp2_with (first
    | (go_at_call 65; refine (known_any _ _ _).mono ?_; rintro e w' ⟨rfl, rfl⟩))
  go_returns
  exact ⟨rfl, by go_grown, by go_grown⟩
theorem meet_no (av am bv bm : BitVec 64) (h : meetX av am bv bm = false) (w : World) : Calls Tryz.prog 23 #[.agg #[.int .u64 (iv av), .int .u64 (iv am)], .agg #[.int .u64 (iv bv), .int .u64 (iv bm)]] w fun e w' => e = .returned (.tuple #[.agg #[.int .u64 (iv 0#64), .int .u64 (iv 0#64)], .bool false]) ∧ Gr w w' := by
  have r0 := @iv_andNot
  have r2 := @iv_or
  have r3 := @iv_xor
  have r4 := @iv_ne0
  have hd : ((av ^^^ bv) &&& ~~~(am ||| bm) != 0#64) = true := by rw [bne, show ((av ^^^ bv) &&& ~~~(am ||| bm) == 0#64) = false from h]; rfl
  clear h
  go_enter Tryz.func23, Tryz.ntmps23
  go_wp2
  go_returns
  exact ⟨rfl, by go_grown, by go_grown⟩
set_option maxHeartbeats 4000000 in
theorem sar_any (v m : BitVec 64) (n : Nat) (w : World) : Calls Tryz.prog 126 #[.agg #[.int .u64 (iv v), .int .u64 (iv m)], .int .u64 (n : Int)] w fun e w' => e = .returned (.agg #[.int .u64 (iv (v.sshiftRight n)), .int .u64 (iv (m.sshiftRight n))]) ∧ Gr w w' := by
  go_enter Tryz.func126, Tryz.ntmps126
  go_wp2_with fail
  go_region_with (first | (go_at_call 141; refine (down_any _ _ _).mono ?_; rintro e w' ⟨rfl, rfl⟩))
  all_goals (try go_wp2)
  all_goals go_returns
  all_goals exact ⟨rfl, by go_grown, by go_grown⟩

theorem iv_shl0 (n : Nat) : IntKind.u64.wrap (2 ^ n) = iv (1#64 <<< n) := by
  rw [← iv_shl, iv_one, Int.one_mul]
theorem bit_and (m : BitVec 64) (i : Nat) : (m >>> i &&& 1#64 == 1#64) = m.getLsbD i := by
  have e : m >>> i &&& 1#64 = if m.getLsbD i then 1#64 else 0#64 := by
    apply BitVec.eq_of_getLsbD_eq
    intro j hj
    rw [BitVec.getLsbD_and, BitVec.getLsbD_ushiftRight, BitVec.getLsbD_one]
    by_cases h0 : j = 0
    · subst h0; cases m.getLsbD i <;> simp
    · cases m.getLsbD i <;> simp [h0]
  rw [e]
  cases m.getLsbD i <;> decide
theorem bit_val (v : BitVec 64) (i : Nat) : iv (v >>> i &&& 1#64) = ((if v.getLsbD i then 1 else 0 : Nat) : Int) := by
  have := bit_and v i
  cases h : v.getLsbD i
  · rw [h] at this
    have e : v >>> i &&& 1#64 = 0#64 := by
      apply BitVec.eq_of_getLsbD_eq
      intro j hj
      rw [BitVec.getLsbD_and, BitVec.getLsbD_ushiftRight, BitVec.getLsbD_one]
      by_cases h0 : j = 0
      · subst h0; simp [h]
      · simp [h0]
    rw [e]; rfl
  · rw [h] at this
    rw [beq_iff_eq.1 this]; rfl
def putV (v : BitVec 64) (i z : Nat) : BitVec 64 := if z = 1 then v ||| 1#64 <<< i else v
def putM (m : BitVec 64) (i z : Nat) : BitVec 64 := if z = 2 then m ||| 1#64 <<< i else m
end Go.Proofs.YtdhmmjphjloneabGreat.Tn
