/- Towards the statements of package tnum (layer 3): the document's answers in the program's own words. -/
import Derived.Test.YtoomcnjpomdbpaaAgree
import Derived.Test.YtoomcnjpomdbpaaWorks
namespace Go.Proofs.Ytoomcnjpomdbpaa
open Go.ChangeShapes Go.WideShapes Go.ChangeAt Go.RowKit
set_option linter.unusedVariables false
set_option maxRecDepth 20000

theorem rrange_any (lo hi : BitVec 64) (w : World) : Calls Try.prog 19 #[.int .u64 (iv lo), .int .u64 (iv hi)] w fun e w' => e = .returned (.agg #[.int .u64 (iv (rgV lo hi)), .int .u64 (iv (rgM lo hi))]) ∧ Gr w w' := by
  by_cases h : hi < lo
  · have := rrange_all lo hi (decide_eq_true h) w
    rw [rgV, rgM, if_pos h, if_pos h]; exact this
  · have := rrange_in lo hi (decide_eq_false h) w
    have e := Tn.mk_eq (Tn.ok_cut lo (rangeM lo hi)) (fun i hi' => range_bit lo hi i hi')
    rw [← e.1, ← e.2] at this
    rw [rgV, rgM, if_neg h, if_neg h]; exact this
theorem smeet_any (av am bv bm : BitVec 64) (oa : Tn.Ok av am) (ob : Tn.Ok bv bm) (w : World) : Calls Try.prog 11 #[.agg #[.int .u64 (iv av), .int .u64 (iv am)], .agg #[.int .u64 (iv bv), .int .u64 (iv bm)]] w fun e w' => e = .returned (.tuple #[.agg #[.int .u64 (iv (mtV av am bv bm)), .int .u64 (iv (mtM av am bv bm))], .bool (meetX av am bv bm)]) ∧ Gr w w' := by
  refine rmeet_any av am bv bm (meetX av am bv bm) meet_iff _ _ (fun h => ?_) (fun h => ?_) w
  · have g := meet_iff.1 h
    have e := Tn.mk_eq (Tn.ok_cut (av ||| bv) (am &&& bm)) (fun i hi => meet_bit oa ob i hi (g i hi))
    rw [mtV, mtM, h, if_pos rfl, if_pos rfl]; exact e
  · rw [mtV, mtM, h, if_neg (by decide), if_neg (by decide)]; exact ⟨rfl, rfl⟩
theorem shas_any (v m x : BitVec 64) (o : Tn.Ok v m) (w : World) : Calls Try.prog 14 #[.agg #[.int .u64 (iv v), .int .u64 (iv m)], .int .u64 (iv x)] w fun e w' => e = .returned (.bool (x &&& ~~~m == v)) ∧ Gr w w' := by
  exact rhas_any v m x _ (has_iff o) w
theorem sin_any (av am bv bm : BitVec 64) (ob : Tn.Ok bv bm) (w : World) : Calls Try.prog 16 #[.agg #[.int .u64 (iv av), .int .u64 (iv am)], .agg #[.int .u64 (iv bv), .int .u64 (iv bm)]] w fun e w' => e = .returned (.bool (am &&& ~~~bm == 0#64 && av &&& ~~~bm == bv)) ∧ Gr w w' := by
  exact rin_any av am bv bm _ (in_iff ob) w
theorem sjoin_any (av am bv bm : BitVec 64) (oa : Tn.Ok av am) (ob : Tn.Ok bv bm) (w : World) : Calls Try.prog 21 #[.agg #[.int .u64 (iv av), .int .u64 (iv am)], .agg #[.int .u64 (iv bv), .int .u64 (iv bm)], .int .i64 0] w fun e w' => e = .returned (.agg #[.int .u64 (iv (av &&& ~~~(joinM av am bv bm))), .int .u64 (iv (joinM av am bv bm))]) ∧ Gr w w' := by
  have := bits_join av am bv bm w
  have e := Tn.mk_eq (Tn.ok_cut av (joinM av am bv bm)) (fun i hi => join_bit oa ob i hi)
  rw [← e.1, ← e.2] at this
  exact this
theorem sand_any (av am bv bm : BitVec 64) (oa : Tn.Ok av am) (ob : Tn.Ok bv bm) (w : World) : Calls Try.prog 21 #[.agg #[.int .u64 (iv av), .int .u64 (iv am)], .agg #[.int .u64 (iv bv), .int .u64 (iv bm)], .int .i64 1] w fun e w' => e = .returned (.agg #[.int .u64 (iv (av &&& bv)), .int .u64 (iv (andM av am bv bm))]) ∧ Gr w w' := by
  have := bits_and av am bv bm w
  have e := Tn.mk_eq (and_ok av am bv bm) (fun i hi => and_bit oa ob i hi)
  rw [← e.1, ← e.2] at this
  exact this
theorem sor_any (av am bv bm : BitVec 64) (oa : Tn.Ok av am) (ob : Tn.Ok bv bm) (w : World) : Calls Try.prog 21 #[.agg #[.int .u64 (iv av), .int .u64 (iv am)], .agg #[.int .u64 (iv bv), .int .u64 (iv bm)], .int .i64 2] w fun e w' => e = .returned (.agg #[.int .u64 (iv (av ||| bv)), .int .u64 (iv (orM av am bv bm))]) ∧ Gr w w' := by
  have := bits_or av am bv bm w
  have e := Tn.mk_eq (or_ok av am bv bm) (fun i hi => or_bit oa ob i hi)
  rw [← e.1, ← e.2] at this
  exact this
theorem sxor_any (av am bv bm : BitVec 64) (oa : Tn.Ok av am) (ob : Tn.Ok bv bm) (w : World) : Calls Try.prog 21 #[.agg #[.int .u64 (iv av), .int .u64 (iv am)], .agg #[.int .u64 (iv bv), .int .u64 (iv bm)], .int .i64 3] w fun e w' => e = .returned (.agg #[.int .u64 (iv ((av ^^^ bv) &&& ~~~(am ||| bm))), .int .u64 (iv (am ||| bm))]) ∧ Gr w w' := by
  have := bits_xor av am bv bm w
  have e := Tn.mk_eq (Tn.ok_cut (av ^^^ bv) (am ||| bm)) (fun i hi => xor_bit oa ob i hi)
  rw [← e.1, ← e.2] at this
  exact this
theorem slow_any (v m : BitVec 64) (o : Tn.Ok v m) (n : Nat) (hn : n < 256) (w : World) : Calls Try.prog 23 #[.agg #[.int .u64 (iv v), .int .u64 (iv m)], .int .u64 (n : Int)] w fun e w' => e = .returned (.agg #[.int .u64 (iv (v &&& (1#64 <<< n - 1#64))), .int .u64 (iv (m &&& (1#64 <<< n - 1#64)))]) ∧ Gr w w' := by
  have := rlow_any v m n (by omega) w
  rw [(low_acc o n).1, (low_acc o n).2] at this
  exact this
theorem sshl_any (v m : BitVec 64) (o : Tn.Ok v m) (n : Nat) (hn : n < 256) (w : World) : Calls Try.prog 35 #[.agg #[.int .u64 (iv v), .int .u64 (iv m)], .int .u64 (n : Int), .int .i64 0] w fun e w' => e = .returned (.agg #[.int .u64 (iv (v <<< n)), .int .u64 (iv (m <<< n))]) ∧ Gr w w' := by
  have := shift0 v m n hn w
  have e := Tn.mk_eq (shl_ok o n) (fun i hi => shl_bit n i hi)
  rw [← e.1, ← e.2] at this
  exact this
theorem sshr_any (v m : BitVec 64) (o : Tn.Ok v m) (n : Nat) (hn : n < 256) (w : World) : Calls Try.prog 35 #[.agg #[.int .u64 (iv v), .int .u64 (iv m)], .int .u64 (n : Int), .int .i64 1] w fun e w' => e = .returned (.agg #[.int .u64 (iv (v >>> n)), .int .u64 (iv (m >>> n))]) ∧ Gr w w' := by
  have := shift1 v m n hn w
  have e := Tn.mk_eq (shr_ok o n) (fun i hi => shr_bit n i hi)
  rw [← e.1, ← e.2] at this
  exact this
theorem ssar_any (v m : BitVec 64) (o : Tn.Ok v m) (n : Nat) (hn : n < 256) (w : World) : Calls Try.prog 35 #[.agg #[.int .u64 (iv v), .int .u64 (iv m)], .int .u64 (n : Int), .int .i64 2] w fun e w' => e = .returned (.agg #[.int .u64 (iv (v.sshiftRight n)), .int .u64 (iv (m.sshiftRight n))]) ∧ Gr w w' := by
  have := shift2 v m n hn w
  have e := Tn.mk_eq (sar_ok o n) (fun i hi => sar_bit n i hi)
  rw [← e.1, ← e.2] at this
  exact this

end Go.Proofs.Ytoomcnjpomdbpaa
