/- Towards the statements of package name (layer 9): the document's Compare. -/
import Derived.Test.YtkndkniimlckeaaNZ
namespace Go.Proofs.Ytkndkniimlckeaa
open Go.ChangeShapes Go.WideShapes Go.ChangeAt Go.RowKit
set_option linter.unusedVariables false
set_option linter.unusedSimpArgs false
set_option maxRecDepth 20000
def signV (a b : Nat) : Int := if a < b then -1 else if b < a then 1 else 0
theorem sign_any (a b : Nat) (w : World) : Calls Try.prog 32 #[.int .i64 a, .int .i64 b] w fun e w' => e = .returned (.int .i64 (signV a b)) ∧ w' = w := by
  unfold signV
  by_cases h1 : a < b
  · have d1 : decide ((a : Int) < b) = true := by simp; omega
    rw [if_pos h1]
    go_enter Try.func32, Try.ntmps32
    go_wp2
    go_returns
    exact ⟨rfl, rfl⟩
  · have d1 : decide ((a : Int) < b) = false := by simp; omega
    rw [if_neg h1]
    by_cases h2 : b < a
    · have d2 : decide ((b : Int) < a) = true := by simp; omega
      rw [if_pos h2]
      go_enter Try.func32, Try.ntmps32
      go_wp2
      go_returns
      exact ⟨rfl, rfl⟩
    · have d2 : decide ((b : Int) < a) = false := by simp; omega
      rw [if_neg h2]
      go_enter Try.func32, Try.ntmps32
      go_wp2
      go_returns
      exact ⟨rfl, rfl⟩
theorem cmpN_drop {l m : List Nat} {k : Nat} (h : l.take k = m.take k) : cmpN l m = cmpN (l.drop k) (m.drop k) := by
  have h1 := List.take_append_drop k l
  have h2 := List.take_append_drop k m
  rw [← h] at h2
  have := cmpN_app (l.take k) (l.drop k) (m.drop k)
  rwa [h1, h2] at this
theorem cmpN_at {l m : List Nat} {k x y : Nat} (h : l.take k = m.take k) (hx : l[k]? = some x) (hy : m[k]? = some y) (hne : x ≠ y) : cmpN l m = signV x y := by
  obtain ⟨h1, e1⟩ := List.getElem?_eq_some_iff.1 hx
  obtain ⟨h2, e2⟩ := List.getElem?_eq_some_iff.1 hy
  rw [cmpN_drop h, List.drop_eq_getElem_cons h1, List.drop_eq_getElem_cons h2, e1, e2, cmpN, signV]
  by_cases g1 : x < y
  · rw [if_pos g1, if_pos g1]
  · rw [if_neg g1, if_neg g1, if_pos (by omega), if_pos (by omega)]
theorem cmpN_end {l m : List Nat} {k : Nat} (h : l.take k = m.take k) (hk : ¬ (k < l.length ∧ k < m.length)) (h1 : k ≤ l.length) (h2 : k ≤ m.length) : cmpN l m = signV l.length m.length := by
  rw [cmpN_drop h]
  by_cases g1 : k < l.length
  · have e2 : k = m.length := by omega
    have : m.drop k = [] := List.drop_eq_nil_of_le (by omega)
    rw [this, List.drop_eq_getElem_cons g1, cmpN, signV, if_neg (by omega), if_pos (by omega)]
  · have e1 : l.drop k = [] := List.drop_eq_nil_of_le (by omega)
    by_cases g2 : k < m.length
    · rw [e1, List.drop_eq_getElem_cons g2, cmpN, signV, if_pos (by omega)]
    · have e2 : m.drop k = [] := List.drop_eq_nil_of_le (by omega)
      rw [e1, e2, cmpN, signV, if_neg (by omega), if_neg (by omega)]
theorem take_more {l m : List Nat} {k x : Nat} (h : l.take k = m.take k) (hx : l[k]? = some x) (hy : m[k]? = some x) : l.take (k + 1) = m.take (k + 1) := by
  obtain ⟨h1, e1⟩ := List.getElem?_eq_some_iff.1 hx
  obtain ⟨h2, e2⟩ := List.getElem?_eq_some_iff.1 hy
  rw [List.take_succ_eq_append_getElem h1, List.take_succ_eq_append_getElem h2, e1, e2, h]
set_option maxHeartbeats 4000000 in
theorem rcompare_any (a b : ByteArray) (ha : a.size ≤ 65536) (hb : b.size ≤ 65536) (w : World) : Calls Try.prog 20 #[.string a, .string b] w fun e w' => e = .returned (.int .i64 (cmpM (bt a) (bt b))) ∧ Bl w w' := by
  have kall : ∀ (s : ByteArray) (R : List Nat), s.size ≤ 65536 → allV (bt s) = some R → ∀ W, Calls Try.prog 23 #[.string s] W fun e w' => ∃ p c, e = .returned (.tuple #[.slice p R.length c, .bool true]) ∧ IRow w' (.slice p R.length c) R ∧ Bl W w' := fun s R hs hR W => (all_any s (by omega) W).mono fun e w' h => by
    rw [hR] at h
    obtain ⟨v, rfl, hv⟩ := h.1.2 R rfl
    obtain ⟨p, c, rfl⟩ := hv.shape
    exact ⟨p, c, rfl, hv, h.2⟩
  have knone : ∀ (s : ByteArray), s.size ≤ 65536 → allV (bt s) = none → ∀ W, Calls Try.prog 23 #[.string s] W fun e w' => e = .returned (.tuple #[.slice none 0 0, .bool false]) ∧ Bl W w' := fun s hs hR W => (all_any s (by omega) W).mono fun e w' h => by
    rw [hR] at h
    exact ⟨h.1.1 rfl, h.2⟩
  have hch : ∀ l, (ch l).isSome = (allV l).isSome := fun l => by unfold allV; cases ch l <;> rfl
  unfold cmpM
  rw [hch, hch]
  cases h1 : allV (bt a) with
  | none =>
    have k1 := knone a ha h1
    cases h2 : allV (bt b) with
    | none =>
      have k2 := knone b hb h2
      simp only [Option.isSome_none, if_true]
      clear kall knone hch h1 h2
      have hla := bt_len a
      have hlb := bt_len b
      obtain ⟨ans, hans⟩ : ∃ ans, cmpN (bt a) (bt b) = ans := ⟨_, rfl⟩
      rw [hans]
      replace hans : Hid (cmpN (bt a) (bt b) = ans) := hans
      replace hla : Hid ((bt a).length = a.size) := hla
      replace hlb : Hid ((bt b).length = b.size) := hlb
      go_enter Try.func20, Try.ntmps20
      go_upto_region 2 with (first | (go_at_call 23; refine (k1 _).mono ?_; rintro e w1 ⟨rfl, hb1⟩))
      go_upto_region 4 with (first | (go_at_call 23; refine (k2 _).mono ?_; rintro e w2 ⟨rfl, hb2⟩))
      have HB := hb1.trans hb2
      go_wp2
      go_loopw [9] (fun i wr => ∃ k : Nat, i = .int .i64 k ∧ k ≤ a.size ∧ k ≤ b.size ∧ (bt a).take k = (bt b).take k ∧ Bl w wr) (fun i _ => a.size - (intOf i).toNat)
      case atStart => exact ⟨0, rfl, by omega, by omega, by simp, HB⟩
      case round =>
        obtain ⟨k, rfl, hka, hkb, ht, hbr⟩ := hrel
        replace ht : Hid ((bt a).take k = (bt b).take k) := ht
        have ksg : ∀ (x y : Nat) W, Calls Try.prog 32 #[.int .i64 x, .int .i64 y] W fun e w' => e = .returned (.int .i64 (signV x y)) ∧ w' = W := sign_any
        by_cases hlt : k < a.size ∧ k < b.size
        · have hd1 : decide ((k : Int) < a.size) = true := by simp; omega
          have hd2 : decide ((k : Int) < b.size) = true := by simp; omega
          have e1 : IntKind.i64.wrap ((k : Int) + 1) = (k : Int) + 1 := IntWalk.i64_in _ (by omega)
          obtain ⟨x, hx⟩ : ∃ x, (bt a)[k]? = some x := ⟨(bt a)[k]'(by rw [hla.out]; omega), List.getElem?_eq_getElem _⟩
          obtain ⟨y, hy⟩ : ∃ y, (bt b)[k]? = some y := ⟨(bt b)[k]'(by rw [hlb.out]; omega), List.getElem?_eq_getElem _⟩
          obtain ⟨hx1, hx2⟩ := bt_at hx
          obtain ⟨hy1, hy2⟩ := bt_at hy
          have hxb := bt_lt a x (List.mem_of_getElem? hx)
          have hyb := bt_lt b y (List.mem_of_getElem? hy)
          have ex : IntKind.i64.wrap (x : Int) = x := IntWalk.i64_in _ (by omega)
          have ey : IntKind.i64.wrap (y : Int) = y := IntWalk.i64_in _ (by omega)
          by_cases hxy : x = y
          · subst hxy
            have hs1 : Hid ((bt a).take (k + 1) = (bt b).take (k + 1)) := take_more ht.out hx hy
            clear hx hy
            go_upto_region 7 with fail
            go_quiet (fail)
            go_wp2
            exact ⟨⟨k + 1, by simp, by omega, by omega, hs1.out, ⟨hbr.os, hbr.tape, hbr.output, hbr.size, hbr.block⟩⟩, by simp [intOf]; omega⟩
          · have hs1 : ans = signV x y := by rw [← hans.out]; exact cmpN_at ht.out hx hy hxy
            have hq : ((x : Int) != y) = true := by simp; omega
            clear hx hy
            subst hs1
            go_upto_region 7 with fail
            go_quiet (fail)
            have hbq : Bl w (wr.drewN nq) := ⟨hbr.os, hbr.tape, hbr.output, hbr.size, hbr.block⟩
            generalize wr.drewN nq = W2 at hbq ⊢
            go_upto_region 8 with fail
            go_quiet (first | (go_at_call 32; exact Calls.quiet_of_same (ksg _ _ _)))
            go_wp2
            try rw [Exit.noGoto_ret]
            go_returns
            exact ⟨rfl, ⟨hbq.os, hbq.tape, hbq.output, hbq.size, hbq.block⟩⟩
        · have hs1 : ans = signV a.size b.size := by
            rw [← hans.out, cmpN_end ht.out (by rw [hla.out, hlb.out]; exact hlt) (by rw [hla.out]; omega) (by rw [hlb.out]; omega), hla.out, hlb.out]
          subst hs1
          by_cases g1 : k < a.size
          · have hd1 : decide ((k : Int) < a.size) = true := by simp; omega
            have hd2 : decide ((k : Int) < b.size) = false := by simp; omega
            go_wp2_with (first | (go_at_call 32; refine (ksg _ _ _).mono ?_; rintro e w5 ⟨rfl, rfl⟩))
            go_returns
            exact ⟨rfl, hbr⟩
          · have hd1 : decide ((k : Int) < a.size) = false := by simp; omega
            go_wp2_with (first | (go_at_call 32; refine (ksg _ _ _).mono ?_; rintro e w5 ⟨rfl, rfl⟩))
            go_returns
            exact ⟨rfl, hbr⟩
    | some R2 =>
      have k2 := kall b R2 hb h2
      simp only [Option.isSome_none, Option.isSome_some]
      clear kall knone hch h1 h2
      go_enter Try.func20, Try.ntmps20
      go_upto_region 2 with (first | (go_at_call 23; refine (k1 _).mono ?_; rintro e w1 ⟨rfl, hb1⟩))
      go_wp2_with (first | (go_at_call 23; refine (k2 _).mono ?_; rintro e w2 ⟨p, c, rfl, hI, hb2⟩))
      go_returns
      exact ⟨rfl, hb1.trans hb2⟩
  | some R1 =>
    have k1 := kall a R1 ha h1
    cases h2 : allV (bt b) with
    | none =>
      have k2 := knone b hb h2
      simp only [Option.isSome_none, Option.isSome_some]
      clear kall knone hch h1 h2
      go_enter Try.func20, Try.ntmps20
      go_upto_region 2 with (first | (go_at_call 23; refine (k1 _).mono ?_; rintro e w1 ⟨p, c, rfl, hI, hb1⟩))
      go_wp2_with (first | (go_at_call 23; refine (k2 _).mono ?_; rintro e w2 ⟨rfl, hb2⟩))
      go_returns
      exact ⟨rfl, hb1.trans hb2⟩
    | some R2 =>
      have k2 := kall b R2 hb h2
      simp only [Option.isSome_some, if_true]
      obtain ⟨C1, hC1, rfl⟩ : ∃ C, ch (bt a) = some C ∧ C.map (·.1) = R1 := by simpa [allV] using h1
      obtain ⟨C2, hC2, rfl⟩ : ∃ C, ch (bt b) = some C ∧ C.map (·.1) = R2 := by simpa [allV] using h2
      have hT1 := (ch_iff (bt_lt a)).1 hC1
      have hT2 := (ch_iff (bt_lt b)).1 hC2
      rw [txt_cmp hT1 hT2]
      have hsmall : ∀ {l : List Nat} {C}, Txt l C → C.length ≤ l.length := fun {l C} h => by
        induction h with
        | nil => exact Nat.le_refl _
        | cons p l r C hr hC ih =>
          have := List.length_pos_iff.2 hr.ne
          simp; omega
      have hl1 : (C1.map (·.1)).length ≤ 65536 := by have := hsmall hT1; rw [bt_len] at this; simp; omega
      have hl2 : (C2.map (·.1)).length ≤ 65536 := by have := hsmall hT2; rw [bt_len] at this; simp; omega
      generalize C1.map (·.1) = R1 at k1 hl1 ⊢
      generalize C2.map (·.1) = R2 at k2 hl2 ⊢
      clear kall knone hch h1 h2 hC1 hC2 hT1 hT2 hsmall
      obtain ⟨ans, hans⟩ : ∃ ans, cmpN R1 R2 = ans := ⟨_, rfl⟩
      rw [hans]
      replace hans : Hid (cmpN R1 R2 = ans) := hans
      go_enter Try.func20, Try.ntmps20
      go_upto_region 2 with (first | (go_at_call 23; refine (k1 _).mono ?_; rintro e w1 ⟨p1, c1, rfl, hI1, hb1⟩))
      go_upto_region 14 with (first | (go_at_call 23; refine (k2 _).mono ?_; rintro e w2 ⟨p2, c2, rfl, hI2, hb2⟩))
      have HB := hb1.trans hb2
      have hI1' := hI1.gr hb2
      clear hI1
      go_wp2
      go_loopw [10] (fun i wr => ∃ k : Nat, i = .int .i64 k ∧ k ≤ R1.length ∧ k ≤ R2.length ∧ R1.take k = R2.take k ∧ Bl w2 wr) (fun i _ => R1.length - (intOf i).toNat)
      case atStart => exact ⟨0, rfl, by omega, by omega, by simp, Bl.refl w2⟩
      case round =>
        obtain ⟨k, rfl, hka, hkb, ht, hbr⟩ := hrel
        replace ht : Hid (R1.take k = R2.take k) := ht
        have hbw := HB.trans hbr
        have ksg : ∀ (x y : Nat) W, Calls Try.prog 32 #[.int .i64 x, .int .i64 y] W fun e w' => e = .returned (.int .i64 (signV x y)) ∧ w' = W := sign_any
        by_cases hlt : k < R1.length ∧ k < R2.length
        · have hd1 : decide ((k : Int) < R1.length) = true := by simp; omega
          have hd2 : decide ((k : Int) < R2.length) = true := by simp; omega
          have hd3 : decide ((0 : Int) ≤ (k : Int) ∧ (k : Int) < (R1.length : Int)) = true := by simp; omega
          have hd4 : decide ((0 : Int) ≤ (k : Int) ∧ (k : Int) < (R2.length : Int)) = true := by simp; omega
          have e1 : IntKind.i64.wrap ((k : Int) + 1) = (k : Int) + 1 := IntWalk.i64_in _ (by omega)
          obtain ⟨x, hx⟩ : ∃ x, R1[k]? = some x := ⟨R1[k]'hlt.1, List.getElem?_eq_getElem _⟩
          obtain ⟨y, hy⟩ : ∃ y, R2[k]? = some y := ⟨R2[k]'hlt.2, List.getElem?_eq_getElem _⟩
          obtain ⟨g1, rfl, cx, _, _⟩ := (hI1'.gr hbr).get hx
          obtain ⟨g2, rfl, cy, _, _⟩ := (hI2.gr hbr).get hy
          by_cases hxy : x = y
          · subst hxy
            have hs1 : Hid (R1.take (k + 1) = R2.take (k + 1)) := take_more ht.out hx hy
            clear hx hy
            go_upto_region 17 with fail
            go_quiet (fail)
            go_wp2
            exact ⟨⟨k + 1, by simp, by omega, by omega, hs1.out, ⟨hbr.os, hbr.tape, hbr.output, hbr.size, hbr.block⟩⟩, by simp [intOf]; omega⟩
          · have hs1 : ans = signV x y := by rw [← hans.out]; exact cmpN_at ht.out hx hy hxy
            have hq : ((x : Int) != y) = true := by simp; omega
            clear hx hy
            subst hs1
            go_upto_region 17 with fail
            go_quiet (fail)
            have hbq : Bl w (wr.drewN nq) := ⟨hbw.os, hbw.tape, hbw.output, hbw.size, hbw.block⟩
            have cx2 : (wr.drewN nq).cell? ⟨g1, k, none⟩ = some (.int .i64 x) := cx
            have cy2 : (wr.drewN nq).cell? ⟨g2, k, none⟩ = some (.int .i64 y) := cy
            generalize wr.drewN nq = W2 at hbq cx2 cy2 ⊢
            go_upto_region 18 with fail
            go_quiet (first | (go_at_call 32; exact Calls.quiet_of_same (ksg _ _ _)))
            go_wp2
            try rw [Exit.noGoto_ret]
            go_returns
            exact ⟨rfl, ⟨hbq.os, hbq.tape, hbq.output, hbq.size, hbq.block⟩⟩
        · have hs1 : ans = signV R1.length R2.length := by
            rw [← hans.out, cmpN_end ht.out hlt hka hkb]
          subst hs1
          by_cases g1 : k < R1.length
          · have hd1 : decide ((k : Int) < R1.length) = true := by simp; omega
            have hd2 : decide ((k : Int) < R2.length) = false := by simp; omega
            go_wp2_with (first | (go_at_call 32; refine (ksg _ _ _).mono ?_; rintro e w5 ⟨rfl, rfl⟩))
            go_returns
            exact ⟨rfl, hbw⟩
          · have hd1 : decide ((k : Int) < R1.length) = false := by simp; omega
            go_wp2_with (first | (go_at_call 32; refine (ksg _ _ _).mono ?_; rintro e w5 ⟨rfl, rfl⟩))
            go_returns
            exact ⟨rfl, hbw⟩
end Go.Proofs.Ytkndkniimlckeaa
