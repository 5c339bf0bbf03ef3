/- Towards the statements of package tnum (layer 3): contracts of the functions of the program that go through no loop, for every argument: the answer, as bit vectors, and that nothing of old turns. -/
import Derived.Test.YtekenpgagfmgkaaGreatTBase
namespace Go.Proofs.YtekenpgagfmgkaaGreat.Tn
open Go.ChangeShapes Go.WideShapes Go.ChangeAt Go.RowKit
set_option linter.unusedVariables false
set_option maxRecDepth 20000

theorem iv_shl64 (x : BitVec 64) (n : Nat) : IntKind.u64.wrap (iv x * 2 ^ min n 64) = iv (x <<< n) := by
  rw [iv_shl]
  by_cases h : n ≤ 64
  · rw [Nat.min_eq_left h]
  · rw [Nat.min_eq_right (by omega), BitVec.shiftLeft_eq_zero (by omega : 64 ≤ 64), BitVec.shiftLeft_eq_zero (by omega : 64 ≤ n)]
theorem iv_shr64 (x : BitVec 64) (n : Nat) : iv x / 2 ^ min n 64 = iv (x >>> n) := by
  rw [iv_shr]
  by_cases h : n ≤ 64
  · rw [Nat.min_eq_left h]
  · rw [Nat.min_eq_right (by omega), BitVec.ushiftRight_eq_zero (by omega : 64 ≤ 64), BitVec.ushiftRight_eq_zero (by omega : 64 ≤ n)]
theorem sar_all (x : BitVec 64) (n : Nat) (h : 64 ≤ n) : x.sshiftRight n = x.sshiftRight 64 := by
  apply BitVec.eq_of_getLsbD_eq
  intro i hi
  rw [BitVec.getLsbD_sshiftRight, BitVec.getLsbD_sshiftRight]
  have h1 : ¬ n + i < 64 := by omega
  have h2 : ¬ 64 + i < 64 := by omega
  rw [if_neg h1, if_neg h2]
theorem iv_sar64 (x : BitVec 64) (n : Nat) : IntKind.u64.wrap (wrap64 (iv x) / 2 ^ min n 64) = iv (x.sshiftRight n) := by
  have e : wrap64 (iv x) = x.toInt := by rw [← iv_sign]; simp only [wrap64, IntKind.wrap_i64]
  rw [e, iv_sar, iv_unsign]
  by_cases h : n ≤ 64
  · rw [Nat.min_eq_left h]
  · rw [Nat.min_eq_right (by omega), sar_all x n (by omega)]
theorem iv_zero : iv 0#64 = 0 := rfl
theorem iv_one : iv 1#64 = 1 := rfl
theorem iv_eq0 (x : BitVec 64) : (iv x == 0) = (x == 0#64) := iv_eq x 0#64
theorem iv_ne0 (x : BitVec 64) : (iv x != 0) = (x != 0#64) := iv_ne x 0#64
theorem iv_eq1 (x : BitVec 64) : (iv x == 1) = (x == 1#64) := iv_eq x 1#64
theorem iv_and1 (x : BitVec 64) : bits .and .u64 (iv x) 1 = iv (x &&& 1#64) := iv_and x 1#64
theorem iv_sub1 (x : BitVec 64) : IntKind.u64.wrap (iv x - 1) = iv (x - 1#64) := iv_sub x 1#64
theorem iv_shl1 (n : Nat) : IntKind.u64.wrap (2 ^ min n 64) = iv (1#64 <<< n) := by
  rw [← iv_shl64, iv_one, Int.one_mul]

theorem known_any (v m : BitVec 64) (w : World) : Calls Tryz.prog 116 #[.int .u64 (iv v), .int .u64 (iv m)] w fun e w' => e = .returned (.agg #[.int .u64 (iv (v &&& ~~~m)), .int .u64 (iv m)]) ∧ w' = w.alloc (.cells #[.int .u64 (iv (v &&& ~~~m)), .int .u64 (iv m)] 24) := by
  have r0 := @iv_andNot
  go_enter Tryz.func116, Tryz.ntmps116
  go_wp2
  go_returns
  exact ⟨rfl, rfl⟩
theorem const_any (v : BitVec 64) (w : World) : Calls Tryz.prog 46 #[.int .u64 (iv v)] w fun e w' => e = .returned (.agg #[.int .u64 (iv v), .int .u64 (iv 0#64)]) ∧ w' = w.alloc (.cells #[.int .u64 (iv v), .int .u64 (iv 0#64)] 24) := by
  go_enter Tryz.func46, Tryz.ntmps46
  go_wp2
  go_returns
  exact ⟨rfl, rfl⟩
theorem lowest_any (n : Nat) (w : World) : Calls Tryz.prog 153 #[.int .u64 (n : Int)] w fun e w' => e = .returned (.int .u64 (iv (1#64 <<< n - 1#64))) ∧ w' = w := by
  have r0 := @iv_shl1
  have r1 := @iv_sub1
  go_enter Tryz.func153, Tryz.ntmps153
  go_wp2
  go_ret
  exact ⟨rfl, rfl⟩
theorem down_any (v : BitVec 64) (n : Nat) (w : World) : Calls Tryz.prog 218 #[.int .u64 (iv v), .int .u64 (n : Int)] w fun e w' => e = .returned (.int .u64 (iv (v.sshiftRight n))) ∧ w' = w := by
  have r0 := @iv_sar64
  go_enter Tryz.func218, Tryz.ntmps218
  go_wp2
  go_ret
  exact ⟨rfl, rfl⟩
theorem may_any (v m : BitVec 64) (w : World) : Calls Tryz.prog 35 #[.agg #[.int .u64 (iv v), .int .u64 (iv m)]] w fun e w' => e = .returned (.bool (v &&& m == 0#64)) ∧ w' = w.alloc (.cells #[.int .u64 (iv v), .int .u64 (iv m)] 24) := by
  have r0 := @iv_and
  have r1 := @iv_eq0
  go_enter Tryz.func35, Tryz.ntmps35
  go_wp2
  go_ret
  exact ⟨rfl, rfl⟩
theorem has_any (v m x : BitVec 64) (w : World) : Calls Tryz.prog 53 #[.agg #[.int .u64 (iv v), .int .u64 (iv m)], .int .u64 (iv x)] w fun e w' => e = .returned (.bool (x &&& ~~~m == v)) ∧ w' = w.alloc (.cells #[.int .u64 (iv v), .int .u64 (iv m)] 24) := by
  have r0 := @iv_andNot
  have r1 := @iv_eq
  go_enter Tryz.func53, Tryz.ntmps53
  go_wp2
  go_ret
  exact ⟨rfl, rfl⟩
def joinM (av am bv bm : BitVec 64) : BitVec 64 := av ^^^ bv ||| am ||| bm
theorem add_raw (av am bv bm : BitVec 64) (w : World) : Calls Tryz.prog 177 #[.agg #[.int .u64 (iv av), .int .u64 (iv am)], .agg #[.int .u64 (iv bv), .int .u64 (iv bm)]] w fun e w' => e = .returned (.agg #[.int .u64 (iv ((av + bv) &&& ~~~((av + bv) ^^^ ((av + bv) + (am + bm)) ||| am ||| bm))), .int .u64 (iv ((av + bv) ^^^ ((av + bv) + (am + bm)) ||| am ||| bm))]) ∧ Gr w w' := by
  have r0 := @iv_xor
  have r1 := @iv_or
  have r2 := @iv_add
  go_enter Tryz.func177, Tryz.ntmps177
  go_wp2_with (first
    | (go_at_call 116; refine (known_any _ _ _).mono ?_; rintro e w' ⟨rfl, rfl⟩))
  go_returns
  exact ⟨rfl, by go_grown, by go_grown⟩
theorem addU_eq (av am bv bm : BitVec 64) : (av + bv) ^^^ ((av + bv) + (am + bm)) ||| am ||| bm = Tn.addU av am bv bm := by
  rw [Tn.addU, BitVec.xor_comm (av + bv), BitVec.add_comm (av + bv)]
theorem add_any (av am bv bm : BitVec 64) (w : World) : Calls Tryz.prog 177 #[.agg #[.int .u64 (iv av), .int .u64 (iv am)], .agg #[.int .u64 (iv bv), .int .u64 (iv bm)]] w fun e w' => e = .returned (.agg #[.int .u64 (iv (Tn.addV av am bv bm)), .int .u64 (iv (Tn.addU av am bv bm))]) ∧ Gr w w' := by
  have := add_raw av am bv bm w
  rw [addU_eq] at this
  exact this
theorem sub_any (av am bv bm : BitVec 64) (w : World) : Calls Tryz.prog 182 #[.agg #[.int .u64 (iv av), .int .u64 (iv am)], .agg #[.int .u64 (iv bv), .int .u64 (iv bm)]] w fun e w' => e = .returned (.agg #[.int .u64 (iv (Tn.subV av am bv bm)), .int .u64 (iv (Tn.subU av am bv bm))]) ∧ Gr w w' := by
  have r0 := @iv_xor
  have r1 := @iv_or
  have r2 := @iv_add
  have r3 := @iv_sub
  go_enter Tryz.func182, Tryz.ntmps182
  go_wp2_with (first
    | (go_at_call 116; refine (known_any _ _ _).mono ?_; rintro e w' ⟨rfl, rfl⟩))
  go_returns
  refine ⟨?_, by go_grown, by go_grown⟩; rw [Tn.subV, Tn.subU, BitVec.xor_comm (av - bv + am)]
def andM (av am bv bm : BitVec 64) : BitVec 64 := (av ||| am) &&& (bv ||| bm) &&& ~~~(av &&& bv)
def orM (av am bv bm : BitVec 64) : BitVec 64 := (am ||| bm) &&& ~~~(av ||| bv)
theorem and_any (av am bv bm : BitVec 64) (w : World) : Calls Tryz.prog 193 #[.agg #[.int .u64 (iv av), .int .u64 (iv am)], .agg #[.int .u64 (iv bv), .int .u64 (iv bm)]] w fun e w' => e = .returned (.agg #[.int .u64 (iv (av &&& bv)), .int .u64 (iv (andM av am bv bm))]) ∧ Gr w w' := by
  have r0 := @iv_and
  have r1 := @iv_or
  have r2 := @iv_andNot
  go_enter Tryz.func193, Tryz.ntmps193
  go_wp2
  go_returns
  exact ⟨rfl, by go_grown, by go_grown⟩
theorem or_any (av am bv bm : BitVec 64) (w : World) : Calls Tryz.prog 192 #[.agg #[.int .u64 (iv av), .int .u64 (iv am)], .agg #[.int .u64 (iv bv), .int .u64 (iv bm)]] w fun e w' => e = .returned (.agg #[.int .u64 (iv (av ||| bv)), .int .u64 (iv (orM av am bv bm))]) ∧ Gr w w' := by
  have r0 := @iv_or
  have r1 := @iv_andNot
  go_enter Tryz.func192, Tryz.ntmps192
  go_wp2
  go_returns
  exact ⟨rfl, by go_grown, by go_grown⟩
theorem xor_any (av am bv bm : BitVec 64) (w : World) : Calls Tryz.prog 194 #[.agg #[.int .u64 (iv av), .int .u64 (iv am)], .agg #[.int .u64 (iv bv), .int .u64 (iv bm)]] w fun e w' => e = .returned (.agg #[.int .u64 (iv ((av ^^^ bv) &&& ~~~(am ||| bm))), .int .u64 (iv (am ||| bm))]) ∧ Gr w w' := by
  have r0 := @iv_xor
  have r1 := @iv_or
  go_enter Tryz.func194, Tryz.ntmps194
  go_wp2_with (first
    | (go_at_call 116; refine (known_any _ _ _).mono ?_; rintro e w' ⟨rfl, rfl⟩))
  go_returns
  exact ⟨rfl, by go_grown, by go_grown⟩
theorem low_any (v m : BitVec 64) (n : Nat) (w : World) : Calls Tryz.prog 71 #[.agg #[.int .u64 (iv v), .int .u64 (iv m)], .int .u64 (n : Int)] w fun e w' => e = .returned (.agg #[.int .u64 (iv (v &&& (1#64 <<< n - 1#64))), .int .u64 (iv (m &&& (1#64 <<< n - 1#64)))]) ∧ Gr w w' := by
  have r0 := @iv_and
  go_enter Tryz.func71, Tryz.ntmps71
  go_wp2_with (first
    | (go_at_call 153; refine (lowest_any _ _).mono ?_; rintro e w' ⟨rfl, rfl⟩))
  go_returns
  exact ⟨rfl, by go_grown, by go_grown⟩
theorem shl_any (v m : BitVec 64) (n : Nat) (w : World) : Calls Tryz.prog 196 #[.agg #[.int .u64 (iv v), .int .u64 (iv m)], .int .u64 (n : Int)] w fun e w' => e = .returned (.agg #[.int .u64 (iv (v <<< n)), .int .u64 (iv (m <<< n))]) ∧ Gr w w' := by
  have r0 := @iv_shl64
  go_enter Tryz.func196, Tryz.ntmps196
  go_wp2
  go_returns
  exact ⟨rfl, by go_grown, by go_grown⟩
theorem shr_any (v m : BitVec 64) (n : Nat) (w : World) : Calls Tryz.prog 198 #[.agg #[.int .u64 (iv v), .int .u64 (iv m)], .int .u64 (n : Int)] w fun e w' => e = .returned (.agg #[.int .u64 (iv (v >>> n)), .int .u64 (iv (m >>> n))]) ∧ Gr w w' := by
  have r0 := @iv_shr64
  go_enter Tryz.func198, Tryz.ntmps198
  go_wp2
  go_returns
  exact ⟨rfl, by go_grown, by go_grown⟩

end Go.Proofs.YtekenpgagfmgkaaGreat.Tn
