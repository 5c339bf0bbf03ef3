/- Towards the statements of package tnum (layer 3): contracts of In, Meet, Sar of the program, and of the document's bit and put, for every argument. -/
import Derived.Test.YtekenpgagfmgkaaGreatTPlain
import Derived.Deep.RegionWith
namespace Go.Proofs.YtekenpgagfmgkaaGreat.Tn
open Go.ChangeShapes Go.WideShapes Go.ChangeAt Go.RowKit
set_option linter.unusedVariables false
set_option maxRecDepth 20000

theorem in_any (av am bv bm : BitVec 64) (w : World) : Calls Tryz.prog 56 #[.agg #[.int .u64 (iv av), .int .u64 (iv am)], .agg #[.int .u64 (iv bv), .int .u64 (iv bm)]] w fun e w' => e = .returned (.bool (am &&& ~~~bm == 0#64 && av &&& ~~~bm == bv)) ∧ Gr w w' := by
  have r0 := @iv_andNot
  have r1 := @iv_eq0
  cases hd : (am &&& ~~~bm == 0#64)
  · go_enter Tryz.func56, Tryz.ntmps56
    go_wp2_with (first
      | (go_at_call 53; refine (has_any _ _ _ _).mono ?_; rintro e w' ⟨rfl, rfl⟩))
    go_ret
    exact ⟨rfl, by go_grown, by go_grown⟩
  · go_enter Tryz.func56, Tryz.ntmps56
    go_wp2_with (first
      | (go_at_call 53; refine (has_any _ _ _ _).mono ?_; rintro e w' ⟨rfl, rfl⟩))
    go_ret
    exact ⟨rfl, by go_grown, by go_grown⟩
def meetX (av am bv bm : BitVec 64) : Bool := (av ^^^ bv) &&& ~~~(am ||| bm) == 0#64
theorem meet_yes (av am bv bm : BitVec 64) (h : meetX av am bv bm = true) (w : World) : Calls Tryz.prog 58 #[.agg #[.int .u64 (iv av), .int .u64 (iv am)], .agg #[.int .u64 (iv bv), .int .u64 (iv bm)]] w fun e w' => e = .returned (.tuple #[.agg #[.int .u64 (iv ((av ||| bv) &&& ~~~(am &&& bm))), .int .u64 (iv (am &&& bm))], .bool true]) ∧ Gr w w' := by
  have r0 := @iv_andNot
  have r1 := @iv_and
  have r2 := @iv_or
  have r3 := @iv_xor
  have r4 := @iv_ne0
  have hd : ((av ^^^ bv) &&& ~~~(am ||| bm) != 0#64) = false := by rw [bne, show ((av ^^^ bv) &&& ~~~(am ||| bm) == 0#64) = true from h]; rfl
  clear h
  go_enter Tryz.func58, Tryz.ntmps58
  go_wp2_with (first
    | (go_at_call 116; refine (known_any _ _ _).mono ?_; rintro e w' ⟨rfl, rfl⟩))
  go_returns
  exact ⟨rfl, by go_grown, by go_grown⟩
theorem meet_no (av am bv bm : BitVec 64) (h : meetX av am bv bm = false) (w : World) : Calls Tryz.prog 58 #[.agg #[.int .u64 (iv av), .int .u64 (iv am)], .agg #[.int .u64 (iv bv), .int .u64 (iv bm)]] w fun e w' => e = .returned (.tuple #[.agg #[.int .u64 (iv 0#64), .int .u64 (iv 0#64)], .bool false]) ∧ Gr w w' := by
  have r0 := @iv_andNot
  have r2 := @iv_or
  have r3 := @iv_xor
  have r4 := @iv_ne0
  have hd : ((av ^^^ bv) &&& ~~~(am ||| bm) != 0#64) = true := by rw [bne, show ((av ^^^ bv) &&& ~~~(am ||| bm) == 0#64) = false from h]; rfl
  clear h
  go_enter Tryz.func58, Tryz.ntmps58
  go_wp2
  go_returns
  exact ⟨rfl, by go_grown, by go_grown⟩
set_option maxHeartbeats 4000000 in
theorem sar_any (v m : BitVec 64) (n : Nat) (w : World) : Calls Tryz.prog 200 #[.agg #[.int .u64 (iv v), .int .u64 (iv m)], .int .u64 (n : Int)] w fun e w' => e = .returned (.agg #[.int .u64 (iv (v.sshiftRight n)), .int .u64 (iv (m.sshiftRight n))]) ∧ Gr w w' := by
  go_enter Tryz.func200, Tryz.ntmps200
  go_wp2_with fail
  go_region_with (first | (go_at_call 218; refine (down_any _ _ _).mono ?_; rintro e w' ⟨rfl, rfl⟩))
  all_goals (try go_wp2)
  all_goals go_returns
  all_goals exact ⟨rfl, by go_grown, by go_grown⟩

theorem iv_shl0 (n : Nat) : IntKind.u64.wrap (2 ^ n) = iv (1#64 <<< n) := by
  rw [← iv_shl, iv_one, Int.one_mul]
theorem bit_and (m : BitVec 64) (i : Nat) : (m >>> i &&& 1#64 == 1#64) = m.getLsbD i := by
  have e : m >>> i &&& 1#64 = if m.getLsbD i then 1#64 else 0#64 := by
    apply BitVec.eq_of_getLsbD_eq
    intro j hj
    rw [BitVec.getLsbD_and, BitVec.getLsbD_ushiftRight, BitVec.getLsbD_one]
    by_cases h0 : j = 0
    · subst h0; cases m.getLsbD i <;> simp
    · cases m.getLsbD i <;> simp [h0]
  rw [e]
  cases m.getLsbD i <;> decide
theorem bit_val (v : BitVec 64) (i : Nat) : iv (v >>> i &&& 1#64) = ((if v.getLsbD i then 1 else 0 : Nat) : Int) := by
  have := bit_and v i
  cases h : v.getLsbD i
  · rw [h] at this
    have e : v >>> i &&& 1#64 = 0#64 := by
      apply BitVec.eq_of_getLsbD_eq
      intro j hj
      rw [BitVec.getLsbD_and, BitVec.getLsbD_ushiftRight, BitVec.getLsbD_one]
      by_cases h0 : j = 0
      · subst h0; simp [h]
      · simp [h0]
    rw [e]; rfl
  · rw [h] at this
    rw [beq_iff_eq.1 this]; rfl
theorem bit_any (v m : BitVec 64) (i : Nat) (hi : i < 64) (w : World) : Calls Tryz.prog 78 #[.agg #[.int .u64 (iv v), .int .u64 (iv m)], .int .i64 (i : Int)] w fun e w' => e = .returned (.int .i64 (Tn.bitT v m i : Nat)) ∧ w' = w.alloc (.cells #[.int .u64 (iv v), .int .u64 (iv m)] 24) := by
  have r0 := @iv_shr
  have r1 := @iv_and1
  have r2 := @iv_eq1
  have qm := bit_and m i
  have qv := bit_val v i
  cases hm : m.getLsbD i
  · rw [hm] at qm
    cases hv : v.getLsbD i
    · rw [hv] at qv
      have qv' : iv (v >>> i &&& 1#64) = 0 := qv
      have e : Tn.bitT v m i = 0 := by rw [Tn.bitT, hm, hv]; rfl
      rw [e]
      clear qv hv hm e
      go_enter Tryz.func78, Tryz.ntmps78
      go_wp2
      go_ret
      exact ⟨rfl, rfl⟩
    · rw [hv] at qv
      have qv' : iv (v >>> i &&& 1#64) = 1 := qv
      have e : Tn.bitT v m i = 1 := by rw [Tn.bitT, hm, hv]; rfl
      rw [e]
      clear qv hv hm e
      go_enter Tryz.func78, Tryz.ntmps78
      go_wp2
      go_ret
      exact ⟨rfl, rfl⟩
  · rw [hm] at qm
    have e : Tn.bitT v m i = 2 := by rw [Tn.bitT, hm]; rfl
    rw [e]
    clear qv hm e
    go_enter Tryz.func78, Tryz.ntmps78
    go_wp2
    go_ret
    exact ⟨rfl, rfl⟩
def putV (v : BitVec 64) (i z : Nat) : BitVec 64 := if z = 1 then v ||| 1#64 <<< i else v
def putM (m : BitVec 64) (i z : Nat) : BitVec 64 := if z = 2 then m ||| 1#64 <<< i else m
theorem put0 (v m : BitVec 64) (i : Nat) (hi : i < 64) (w : World) : Calls Tryz.prog 119 #[.agg #[.int .u64 (iv v), .int .u64 (iv m)], .int .i64 (i : Int), .int .i64 0] w fun e w' => e = .returned (.agg #[.int .u64 (iv (putV v i 0)), .int .u64 (iv (putM m i 0))]) ∧ w' = (w.alloc (.cells #[.int .u64 (iv (putV v i 0)), .int .u64 (iv (putM m i 0))] 24)).alloc (.cells #[.int .u64 (iv (putV v i 0)), .int .u64 (iv (putM m i 0))] 24) := by
  have r0 := @iv_shl0
  have r1 := @iv_or
  go_enter Tryz.func119, Tryz.ntmps119
  go_wp2
  go_returns
  exact ⟨rfl, rfl⟩
theorem put1 (v m : BitVec 64) (i : Nat) (hi : i < 64) (w : World) : Calls Tryz.prog 119 #[.agg #[.int .u64 (iv v), .int .u64 (iv m)], .int .i64 (i : Int), .int .i64 1] w fun e w' => e = .returned (.agg #[.int .u64 (iv (putV v i 1)), .int .u64 (iv (putM m i 1))]) ∧ w' = (w.alloc (.cells #[.int .u64 (iv (putV v i 1)), .int .u64 (iv (putM m i 1))] 24)).alloc (.cells #[.int .u64 (iv (putV v i 1)), .int .u64 (iv (putM m i 1))] 24) := by
  have r0 := @iv_shl0
  have r1 := @iv_or
  go_enter Tryz.func119, Tryz.ntmps119
  go_wp2
  go_returns
  exact ⟨rfl, rfl⟩
theorem put2 (v m : BitVec 64) (i : Nat) (hi : i < 64) (w : World) : Calls Tryz.prog 119 #[.agg #[.int .u64 (iv v), .int .u64 (iv m)], .int .i64 (i : Int), .int .i64 2] w fun e w' => e = .returned (.agg #[.int .u64 (iv (putV v i 2)), .int .u64 (iv (putM m i 2))]) ∧ w' = (w.alloc (.cells #[.int .u64 (iv (putV v i 2)), .int .u64 (iv (putM m i 2))] 24)).alloc (.cells #[.int .u64 (iv (putV v i 2)), .int .u64 (iv (putM m i 2))] 24) := by
  have r0 := @iv_shl0
  have r1 := @iv_or
  go_enter Tryz.func119, Tryz.ntmps119
  go_wp2
  go_returns
  exact ⟨rfl, rfl⟩
theorem put_any (v m : BitVec 64) (i z : Nat) (hi : i < 64) (hz : z ≤ 2) (w : World) : Calls Tryz.prog 119 #[.agg #[.int .u64 (iv v), .int .u64 (iv m)], .int .i64 (i : Int), .int .i64 (z : Int)] w fun e w' => e = .returned (.agg #[.int .u64 (iv (putV v i z)), .int .u64 (iv (putM m i z))]) ∧ w' = (w.alloc (.cells #[.int .u64 (iv (putV v i z)), .int .u64 (iv (putM m i z))] 24)).alloc (.cells #[.int .u64 (iv (putV v i z)), .int .u64 (iv (putM m i z))] 24) := by
  rcases (by omega : z = 0 ∨ z = 1 ∨ z = 2) with rfl | rfl | rfl
  · exact put0 v m i hi w
  · exact put1 v m i hi w
  · exact put2 v m i hi w

end Go.Proofs.YtekenpgagfmgkaaGreat.Tn
