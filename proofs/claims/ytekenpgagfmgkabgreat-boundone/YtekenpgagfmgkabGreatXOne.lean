/- Towards the statements of package bound (layer 5): BoundOne, walked: a bound knows its one number just if it has that and no other one. -/
import Derived.Test.YtekenpgagfmgkabGreatBX
import Derived.Test.YtekenpgagfmgkabGreatBR
import Derived.Deep.DeepCutAuto
namespace Go.Proofs.YtekenpgagfmgkabGreat
open Go.ChangeShapes Go.WideShapes Go.ChangeAt Go.RowKit
open Tn (iv)
set_option linter.unusedVariables false
set_option maxRecDepth 20000

theorem bd_u32 {a : Int} (h : (Lit.int .u32 a).wf = true) : 0 ≤ a ∧ a ≤ 4294967295 := by
  simpa [Lit.wf, IntKind.min, IntKind.max, IntKind.signed, IntKind.bits] using h
theorem and_n0 (x : BitVec 64) : x &&& ~~~0#64 = x := by
  ext i hi
  rw [BitVec.getElem_and, BitVec.getElem_not, BitVec.getElem_zero]
  simp
theorem const_has (x : BitVec 64) : hasM (constM x) x = true := by
  rw [hasM_iff]
  refine ⟨?_, by simp [constM], by simp [constM], by simp [constM], by simp [constM], by simp [constM], by simp [constM], by simp [constM], by simp [constM]⟩
  exact and_n0 x
theorem const_not {x y : BitVec 64} (h : y ≠ x) : hasM (constM x) y = false := by
  cases e : hasM (constM x) y
  · rfl
  · rw [hasM_iff] at e
    have := e.t
    exact absurd ((and_n0 y).symm.trans this) h
theorem const_good (x : BitVec 64) : Good (constM x) := by
  have h := inU_iv x
  unfold InU at h
  have h2 : -9223372036854775808 ≤ wrap64 (iv x) ∧ wrap64 (iv x) ≤ 9223372036854775807 := by unfold wrap64; omega
  have h3 : -2147483648 ≤ sg (iv x) ∧ sg (iv x) ≤ 2147483647 := by unfold sg; omega
  exact ⟨by simp [constM], h.1, by simp [constM], h.2, h2.1, by simp [constM], h2.2, by simp only [constM]; omega, by simp [constM], by simp only [constM]; omega, h3.1, by simp [constM], h3.2⟩
theorem const_le_any (x : BitVec 64) : Le (constM x) anyM := by
  have h := inU_iv x
  unfold InU at h
  have h2 : -9223372036854775808 ≤ wrap64 (iv x) ∧ wrap64 (iv x) ≤ 9223372036854775807 := by unfold wrap64; omega
  have h3 : -2147483648 ≤ sg (iv x) ∧ sg (iv x) ≤ 2147483647 := by unfold sg; omega
  refine ⟨by simp [constM, anyM], ?_, h.1, h.2, h2.1, h2.2, by simp only [constM, anyM]; omega, by simp only [constM, anyM]; omega, h3.1, h3.2⟩
  show x &&& ~~~18446744073709551615#64 = 0#64
  rw [show ~~~18446744073709551615#64 = 0#64 by decide]
  simp
theorem one_is {s : Bd} {x : BitVec 64} (k : Has s x) (h : s.tm = 0#64) : s.tv = x := by
  have := k.t
  rw [h, and_n0] at this
  exact this.symm
theorem one_yes (tv tm : BitVec 64) (ul uh sl sh wl wh vl vh : Int) (h : ((tm == 0#64) && (tv &&& ~~~tm == tv && (decide (ul ≤ iv tv) && decide (iv tv ≤ uh)) && (decide (sl ≤ wrap64 (iv tv)) && decide (wrap64 (iv tv) ≤ sh)) && (decide (wl ≤ iv tv % 4294967296) && decide (iv tv % 4294967296 ≤ wh)) && (decide (vl ≤ sg (iv tv)) && decide (sg (iv tv) ≤ vh)))) = true) (w : World) : Calls Tryz.prog 16 #[.agg #[.int .u64 (iv tv), .int .u64 (iv tm), .int .u64 ul, .int .u64 uh, .int .i64 sl, .int .i64 sh, .int .u64 wl, .int .u64 wh, .int .i64 vl, .int .i64 vh]] w fun e w' => e = .returned (.tuple #[.int .u64 (iv tv), .bool true]) ∧ Gr w w' := one_q tv tm ul uh sl sh wl wh vl vh true h w
theorem one_no (tv tm : BitVec 64) (ul uh sl sh wl wh vl vh : Int) (h : ((tm == 0#64) && (tv &&& ~~~tm == tv && (decide (ul ≤ iv tv) && decide (iv tv ≤ uh)) && (decide (sl ≤ wrap64 (iv tv)) && decide (wrap64 (iv tv) ≤ sh)) && (decide (wl ≤ iv tv % 4294967296) && decide (iv tv % 4294967296 ≤ wh)) && (decide (vl ≤ sg (iv tv)) && decide (sg (iv tv) ≤ vh)))) = false) (w : World) : Calls Tryz.prog 16 #[.agg #[.int .u64 (iv tv), .int .u64 (iv tm), .int .u64 ul, .int .u64 uh, .int .i64 sl, .int .i64 sh, .int .u64 wl, .int .u64 wh, .int .i64 vl, .int .i64 vh]] w fun e w' => e = .returned (.tuple #[.int .u64 0, .bool false]) ∧ Gr w w' := one_q tv tm ul uh sl sh wl wh vl vh false h w
theorem in_q (atv atm : BitVec 64) (aul auh asl ash awl awh avl avh : Int) (btv btm : BitVec 64) (bul buh bsl bsh bwl bwh bvl bvh : Int) (q : Bool) (h : (nn aul auh asl ash awl awh avl avh || ((atm &&& ~~~btm == 0#64 && atv &&& ~~~btm == btv) && (decide (auh < aul) || ((decide (bul ≤ aul) && decide (aul ≤ buh)) && (decide (bul ≤ auh) && decide (auh ≤ buh)))) && ((decide (bsl ≤ asl) && decide (asl ≤ bsh)) && (decide (bsl ≤ ash) && decide (ash ≤ bsh))) && (decide (awh < awl) || ((decide (bwl ≤ awl) && decide (awl ≤ bwh)) && (decide (bwl ≤ awh) && decide (awh ≤ bwh)))) && ((decide (bvl ≤ avl) && decide (avl ≤ bvh)) && (decide (bvl ≤ avh) && decide (avh ≤ bvh))))) = q) (w : World) : Calls Tryz.prog 12 #[.agg #[.int .u64 (iv atv), .int .u64 (iv atm), .int .u64 aul, .int .u64 auh, .int .i64 asl, .int .i64 ash, .int .u64 awl, .int .u64 awh, .int .i64 avl, .int .i64 avh], .agg #[.int .u64 (iv btv), .int .u64 (iv btm), .int .u64 bul, .int .u64 buh, .int .i64 bsl, .int .i64 bsh, .int .u64 bwl, .int .u64 bwh, .int .i64 bvl, .int .i64 bvh]] w fun e w' => e = .returned (.bool q) ∧ Gr w w' := h ▸ in_all atv atm aul auh asl ash awl awh avl avh btv btm bul buh bsl bsh bwl bwh bvl bvh w
set_option maxHeartbeats 16000000 in
theorem one_law (mk x y : BitVec 64) (dn up ls mo hf tp : Int) (h1 : InU dn) (h2 : InU up) (h3 : InU ls) (h4 : InU mo) (h5 : 0 ≤ hf ∧ hf ≤ 4294967295) (h6 : 0 ≤ tp ∧ tp ≤ 4294967295) (w : World) : Calls Tryz.prog 4 #[.int .u64 (iv x), .int .u64 (iv y), .agg #[.int .u64 (iv mk), .int .u64 dn, .int .u64 up, .int .u64 ls, .int .u64 mo, .int .u32 hf, .int .u32 tp]] w fun e w' => e = .returned (.bool true) ∧ Gr w w' := by
  go_enter Tryz.func4, Tryz.ntmps4
  go_upto_region 2 with (first
    | (go_at_call 10; refine (of_any mk x dn up ls mo hf tp h1 h2 h3 h4 h5 h6 _).mono ?_; rintro e w1 ⟨b, gb, kb, rfl, hg1⟩)
    | (go_at_call 9; refine (sync_any b ⟨gb.u0, by have := gb.u1; have := gb.u2; omega⟩ ⟨by have := gb.u0; have := gb.u1; omega, gb.u2⟩ ⟨gb.s0, by have := gb.s1; have := gb.s2; omega⟩ ⟨by have := gb.s0; have := gb.s1; omega, gb.s2⟩ _).mono ?_; rintro e w2 ⟨rfl, hg2⟩))
  obtain ⟨ks, ls', gs⟩ := sync_keep gb kb
  revert ks gs
  generalize hsy : syncM b = s
  intro ks gs
  clear ls' kb gb hsy h1 h2 h3 h4 h5 h6
  have HX1 : Hid (AtA (w2.alloc (.cells #[.int .u64 (iv s.tv), .int .u64 (iv s.tm), .int .u64 s.ul, .int .u64 s.uh, .int .i64 s.sl, .int .i64 s.sh, .int .u64 s.wl, .int .u64 s.wh, .int .i64 s.vl, .int .i64 s.vh] 33)) w2.heap.size #[.int .u64 (iv s.tv), .int .u64 (iv s.tm), .int .u64 s.ul, .int .u64 s.uh, .int .i64 s.sl, .int .i64 s.sh, .int .u64 s.wl, .int .u64 s.wh, .int .i64 s.vl, .int .i64 s.vh] 33) := AtA.newb _ rfl _ _
  have HG : Hid (Gr w (w2.alloc (.cells #[.int .u64 (iv s.tv), .int .u64 (iv s.tm), .int .u64 s.ul, .int .u64 s.uh, .int .i64 s.sl, .int .i64 s.sh, .int .u64 s.wl, .int .u64 s.wh, .int .i64 s.vl, .int .i64 s.vh] 33))) := Gr.alloc (Gr.trans (Gr.trans ⟨by go_grown, by go_grown⟩ hg1) hg2) _ _
  revert HX1 HG
  generalize (w2.alloc (.cells #[.int .u64 (iv s.tv), .int .u64 (iv s.tm), .int .u64 s.ul, .int .u64 s.uh, .int .i64 s.sl, .int .i64 s.sh, .int .u64 s.wl, .int .u64 s.wh, .int .i64 s.vl, .int .i64 s.vh] 33)) = W
  generalize w2.heap.size = X
  intro HX1 HG
  clear hg1 hg2
  have qx : ∀ p : GrBy W, AtA p.to X _ 33 := fun p => HX1.out.gr p.gr
  have x0 : ∀ p : GrBy W, p.to.cell? ⟨X, 0, none⟩ = some (.int .u64 (iv s.tv)) := fun p => by have h := (qx p).cell 0; simpa only [List.getElem?_toArray, List.getElem?_cons_zero, List.getElem?_cons_succ] using h
  have x1 : ∀ p : GrBy W, p.to.cell? ⟨X, 1, none⟩ = some (.int .u64 (iv s.tm)) := fun p => by have h := (qx p).cell 1; simpa only [List.getElem?_toArray, List.getElem?_cons_zero, List.getElem?_cons_succ] using h
  have x2 : ∀ p : GrBy W, p.to.cell? ⟨X, 2, none⟩ = some (.int .u64 s.ul) := fun p => by have h := (qx p).cell 2; simpa only [List.getElem?_toArray, List.getElem?_cons_zero, List.getElem?_cons_succ] using h
  have x3 : ∀ p : GrBy W, p.to.cell? ⟨X, 3, none⟩ = some (.int .u64 s.uh) := fun p => by have h := (qx p).cell 3; simpa only [List.getElem?_toArray, List.getElem?_cons_zero, List.getElem?_cons_succ] using h
  have x4 : ∀ p : GrBy W, p.to.cell? ⟨X, 4, none⟩ = some (.int .i64 s.sl) := fun p => by have h := (qx p).cell 4; simpa only [List.getElem?_toArray, List.getElem?_cons_zero, List.getElem?_cons_succ] using h
  have x5 : ∀ p : GrBy W, p.to.cell? ⟨X, 5, none⟩ = some (.int .i64 s.sh) := fun p => by have h := (qx p).cell 5; simpa only [List.getElem?_toArray, List.getElem?_cons_zero, List.getElem?_cons_succ] using h
  have x6 : ∀ p : GrBy W, p.to.cell? ⟨X, 6, none⟩ = some (.int .u64 s.wl) := fun p => by have h := (qx p).cell 6; simpa only [List.getElem?_toArray, List.getElem?_cons_zero, List.getElem?_cons_succ] using h
  have x7 : ∀ p : GrBy W, p.to.cell? ⟨X, 7, none⟩ = some (.int .u64 s.wh) := fun p => by have h := (qx p).cell 7; simpa only [List.getElem?_toArray, List.getElem?_cons_zero, List.getElem?_cons_succ] using h
  have x8 : ∀ p : GrBy W, p.to.cell? ⟨X, 8, none⟩ = some (.int .i64 s.vl) := fun p => by have h := (qx p).cell 8; simpa only [List.getElem?_toArray, List.getElem?_cons_zero, List.getElem?_cons_succ] using h
  have x9 : ∀ p : GrBy W, p.to.cell? ⟨X, 9, none⟩ = some (.int .i64 s.vh) := fun p => by have h := (qx p).cell 9; simpa only [List.getElem?_toArray, List.getElem?_cons_zero, List.getElem?_cons_succ] using h
  obtain ⟨q0, hq0⟩ : ∃ q : GrBy W, W = q.to := ⟨⟨W, Gr.refl _⟩, rfl⟩
  rw [show W = q0.to from hq0]
  clear qx hq0
  have HX : Hid (hasM s x = true) := (hasM_iff s x).2 ks
  have HO : Hid (((0#64 : BitVec 64) == 0#64 && hasM (constM x) x) = true) := by
    have : ((0#64 : BitVec 64) == 0#64 && hasM (constM x) x) = true := by rw [const_has]; rfl
    exact this
  have HI : Hid (inM (constM x) anyM = true) := inM_of (const_good x) (const_le_any x)
  have i1 := Tn.iv_eq x y
  have i2 := Tn.iv_ne s.tv x
  have i4 := Tn.iv_ne y x
  have i3 := Tn.iv_eq0 s.tm
  by_cases hm : s.tm = 0#64
  · have ht : s.tv = x := one_is ks hm
    have H1 : Hid ((s.tm == 0#64 && hasM s s.tv) = true) := by
      have : (s.tm == 0#64 && hasM s s.tv) = true := by rw [ht, HX.out, hm]; rfl
      exact this
    have j1 : (s.tv != x) = false := by rw [ht]; simp
    have j2 : (s.tm == 0#64) = true := by rw [hm]; rfl
    by_cases hy : y = x
    · have HC : Hid (hasM (constM x) y = true) := by
        have : hasM (constM x) y = true := by rw [hy]; exact const_has x
        exact this
      have HY : Hid (hasM s y = true) := by
        have : hasM s y = true := by rw [hy]; exact HX.out
        exact this
      have j3 : (y != x) = false := by simpa using hy
      have j4 : (x == y) = true := by simpa using hy.symm
      clear hm ht hy
      go_wp2_with (first
        | (go_at_call_of 13 (Value.int IntKind.u64 (iv y)); go_at_call_of 13 (Value.int IntKind.u64 (iv s.tm)); refine (has_q s.tv s.tm s.ul s.uh s.sl s.sh s.wl s.wh s.vl s.vh y true HY.out _).mono ?_; rintro e w' ⟨rfl, hg⟩; obtain ⟨q', rfl⟩ := by_of hg; clear hg)
        | (go_at_call_of 13 (Value.int IntKind.u64 (iv s.tm)); refine (has_q s.tv s.tm s.ul s.uh s.sl s.sh s.wl s.wh s.vl s.vh x true HX.out _).mono ?_; rintro e w' ⟨rfl, hg⟩; obtain ⟨q', rfl⟩ := by_of hg; clear hg)
        | (go_at_call 13; refine (has_q x 0#64 (iv x) (iv x) (wrap64 (iv x)) (wrap64 (iv x)) (iv x % 4294967296) (iv x % 4294967296) (sg (iv x)) (sg (iv x)) y true HC.out _).mono ?_; rintro e w' ⟨rfl, hg⟩; obtain ⟨q', rfl⟩ := by_of hg; clear hg)
        | (go_at_call_of 16 (Value.int IntKind.u64 (iv s.tm)); refine (one_yes s.tv s.tm s.ul s.uh s.sl s.sh s.wl s.wh s.vl s.vh H1.out _).mono ?_; rintro e w' ⟨rfl, hg⟩; obtain ⟨q', rfl⟩ := by_of hg; clear hg)
        | (go_at_call 16; refine (one_yes x 0#64 (iv x) (iv x) (wrap64 (iv x)) (wrap64 (iv x)) (iv x % 4294967296) (iv x % 4294967296) (sg (iv x)) (sg (iv x)) HO.out _).mono ?_; rintro e w' ⟨rfl, hg⟩; obtain ⟨q', rfl⟩ := by_of hg; clear hg)
        | (go_at_call 14; refine (const_any x _).mono ?_; rintro e w' ⟨rfl, hg⟩; obtain ⟨q', rfl⟩ := by_of hg; clear hg)
        | (go_at_call 17; refine (any_any _).mono ?_; rintro e w' ⟨rfl, hg⟩; obtain ⟨q', rfl⟩ := by_of hg; clear hg)
        | (go_at_call 12; refine (in_q x 0#64 (iv x) (iv x) (wrap64 (iv x)) (wrap64 (iv x)) (iv x % 4294967296) (iv x % 4294967296) (sg (iv x)) (sg (iv x)) 0#64 18446744073709551615#64 0 18446744073709551615 (-9223372036854775808) 9223372036854775807 0 4294967295 (-2147483648) 2147483647 true HI.out _).mono ?_; rintro e w' ⟨rfl, hg⟩; obtain ⟨q', rfl⟩ := by_of hg; clear hg)
        | (go_at_call 15; refine (works_any _).mono ?_; rintro e w' ⟨rfl, hg⟩; obtain ⟨q', rfl⟩ := by_of hg; clear hg))
      go_ret
      exact ⟨by simp, HG.out.trans (GrBy.gr _)⟩
    · have HC : Hid (hasM (constM x) y = false) := const_not hy
      have HY : Hid (hasM s y = false) := by
        have : hasM s y = false := by
          cases e : hasM s y
          · rfl
          · exact absurd ((one_is ((hasM_iff s y).1 e) hm).symm.trans ht) hy
        exact this
      have j3 : (y != x) = true := by simpa using hy
      have j4 : (x == y) = false := by simpa using fun h => hy h.symm
      clear hm ht hy
      go_wp2_with (first
        | (go_at_call_of 13 (Value.int IntKind.u64 (iv y)); go_at_call_of 13 (Value.int IntKind.u64 (iv s.tm)); refine (has_q s.tv s.tm s.ul s.uh s.sl s.sh s.wl s.wh s.vl s.vh y false HY.out _).mono ?_; rintro e w' ⟨rfl, hg⟩; obtain ⟨q', rfl⟩ := by_of hg; clear hg)
        | (go_at_call_of 13 (Value.int IntKind.u64 (iv s.tm)); refine (has_q s.tv s.tm s.ul s.uh s.sl s.sh s.wl s.wh s.vl s.vh x true HX.out _).mono ?_; rintro e w' ⟨rfl, hg⟩; obtain ⟨q', rfl⟩ := by_of hg; clear hg)
        | (go_at_call 13; refine (has_q x 0#64 (iv x) (iv x) (wrap64 (iv x)) (wrap64 (iv x)) (iv x % 4294967296) (iv x % 4294967296) (sg (iv x)) (sg (iv x)) y false HC.out _).mono ?_; rintro e w' ⟨rfl, hg⟩; obtain ⟨q', rfl⟩ := by_of hg; clear hg)
        | (go_at_call_of 16 (Value.int IntKind.u64 (iv s.tm)); refine (one_yes s.tv s.tm s.ul s.uh s.sl s.sh s.wl s.wh s.vl s.vh H1.out _).mono ?_; rintro e w' ⟨rfl, hg⟩; obtain ⟨q', rfl⟩ := by_of hg; clear hg)
        | (go_at_call 16; refine (one_yes x 0#64 (iv x) (iv x) (wrap64 (iv x)) (wrap64 (iv x)) (iv x % 4294967296) (iv x % 4294967296) (sg (iv x)) (sg (iv x)) HO.out _).mono ?_; rintro e w' ⟨rfl, hg⟩; obtain ⟨q', rfl⟩ := by_of hg; clear hg)
        | (go_at_call 14; refine (const_any x _).mono ?_; rintro e w' ⟨rfl, hg⟩; obtain ⟨q', rfl⟩ := by_of hg; clear hg)
        | (go_at_call 17; refine (any_any _).mono ?_; rintro e w' ⟨rfl, hg⟩; obtain ⟨q', rfl⟩ := by_of hg; clear hg)
        | (go_at_call 12; refine (in_q x 0#64 (iv x) (iv x) (wrap64 (iv x)) (wrap64 (iv x)) (iv x % 4294967296) (iv x % 4294967296) (sg (iv x)) (sg (iv x)) 0#64 18446744073709551615#64 0 18446744073709551615 (-9223372036854775808) 9223372036854775807 0 4294967295 (-2147483648) 2147483647 true HI.out _).mono ?_; rintro e w' ⟨rfl, hg⟩; obtain ⟨q', rfl⟩ := by_of hg; clear hg)
        | (go_at_call 15; refine (works_any _).mono ?_; rintro e w' ⟨rfl, hg⟩; obtain ⟨q', rfl⟩ := by_of hg; clear hg))
      go_ret
      exact ⟨by simp, HG.out.trans (GrBy.gr _)⟩
  · have H1 : Hid ((s.tm == 0#64 && hasM s s.tv) = false) := by
      have : (s.tm == 0#64 && hasM s s.tv) = false := by rw [show (s.tm == 0#64) = false by simpa using hm]; rfl
      exact this
    have j2 : (s.tm == 0#64) = false := by simpa using hm
    by_cases hy : y = x
    · have HC : Hid (hasM (constM x) y = true) := by
        have : hasM (constM x) y = true := by rw [hy]; exact const_has x
        exact this
      have HY : Hid (hasM s y = true) := by
        have : hasM s y = true := by rw [hy]; exact HX.out
        exact this
      have j4 : (x == y) = true := by simpa using hy.symm
      clear hm hy
      go_wp2_with (first
        | (go_at_call_of 13 (Value.int IntKind.u64 (iv y)); go_at_call_of 13 (Value.int IntKind.u64 (iv s.tm)); refine (has_q s.tv s.tm s.ul s.uh s.sl s.sh s.wl s.wh s.vl s.vh y true HY.out _).mono ?_; rintro e w' ⟨rfl, hg⟩; obtain ⟨q', rfl⟩ := by_of hg; clear hg)
        | (go_at_call_of 13 (Value.int IntKind.u64 (iv s.tm)); refine (has_q s.tv s.tm s.ul s.uh s.sl s.sh s.wl s.wh s.vl s.vh x true HX.out _).mono ?_; rintro e w' ⟨rfl, hg⟩; obtain ⟨q', rfl⟩ := by_of hg; clear hg)
        | (go_at_call 13; refine (has_q x 0#64 (iv x) (iv x) (wrap64 (iv x)) (wrap64 (iv x)) (iv x % 4294967296) (iv x % 4294967296) (sg (iv x)) (sg (iv x)) y true HC.out _).mono ?_; rintro e w' ⟨rfl, hg⟩; obtain ⟨q', rfl⟩ := by_of hg; clear hg)
        | (go_at_call_of 16 (Value.int IntKind.u64 (iv s.tm)); refine (one_no s.tv s.tm s.ul s.uh s.sl s.sh s.wl s.wh s.vl s.vh H1.out _).mono ?_; rintro e w' ⟨rfl, hg⟩; obtain ⟨q', rfl⟩ := by_of hg; clear hg)
        | (go_at_call 16; refine (one_yes x 0#64 (iv x) (iv x) (wrap64 (iv x)) (wrap64 (iv x)) (iv x % 4294967296) (iv x % 4294967296) (sg (iv x)) (sg (iv x)) HO.out _).mono ?_; rintro e w' ⟨rfl, hg⟩; obtain ⟨q', rfl⟩ := by_of hg; clear hg)
        | (go_at_call 14; refine (const_any x _).mono ?_; rintro e w' ⟨rfl, hg⟩; obtain ⟨q', rfl⟩ := by_of hg; clear hg)
        | (go_at_call 17; refine (any_any _).mono ?_; rintro e w' ⟨rfl, hg⟩; obtain ⟨q', rfl⟩ := by_of hg; clear hg)
        | (go_at_call 12; refine (in_q x 0#64 (iv x) (iv x) (wrap64 (iv x)) (wrap64 (iv x)) (iv x % 4294967296) (iv x % 4294967296) (sg (iv x)) (sg (iv x)) 0#64 18446744073709551615#64 0 18446744073709551615 (-9223372036854775808) 9223372036854775807 0 4294967295 (-2147483648) 2147483647 true HI.out _).mono ?_; rintro e w' ⟨rfl, hg⟩; obtain ⟨q', rfl⟩ := by_of hg; clear hg)
        | (go_at_call 15; refine (works_any _).mono ?_; rintro e w' ⟨rfl, hg⟩; obtain ⟨q', rfl⟩ := by_of hg; clear hg))
      go_ret
      exact ⟨by simp, HG.out.trans (GrBy.gr _)⟩
    · have HC : Hid (hasM (constM x) y = false) := const_not hy
      have j4 : (x == y) = false := by simpa using fun h => hy h.symm
      clear hm hy
      go_wp2_with (first
        | (go_at_call_of 13 (Value.int IntKind.u64 (iv s.tm)); refine (has_q s.tv s.tm s.ul s.uh s.sl s.sh s.wl s.wh s.vl s.vh x true HX.out _).mono ?_; rintro e w' ⟨rfl, hg⟩; obtain ⟨q', rfl⟩ := by_of hg; clear hg)
        | (go_at_call 13; refine (has_q x 0#64 (iv x) (iv x) (wrap64 (iv x)) (wrap64 (iv x)) (iv x % 4294967296) (iv x % 4294967296) (sg (iv x)) (sg (iv x)) y false HC.out _).mono ?_; rintro e w' ⟨rfl, hg⟩; obtain ⟨q', rfl⟩ := by_of hg; clear hg)
        | (go_at_call_of 16 (Value.int IntKind.u64 (iv s.tm)); refine (one_no s.tv s.tm s.ul s.uh s.sl s.sh s.wl s.wh s.vl s.vh H1.out _).mono ?_; rintro e w' ⟨rfl, hg⟩; obtain ⟨q', rfl⟩ := by_of hg; clear hg)
        | (go_at_call 16; refine (one_yes x 0#64 (iv x) (iv x) (wrap64 (iv x)) (wrap64 (iv x)) (iv x % 4294967296) (iv x % 4294967296) (sg (iv x)) (sg (iv x)) HO.out _).mono ?_; rintro e w' ⟨rfl, hg⟩; obtain ⟨q', rfl⟩ := by_of hg; clear hg)
        | (go_at_call 14; refine (const_any x _).mono ?_; rintro e w' ⟨rfl, hg⟩; obtain ⟨q', rfl⟩ := by_of hg; clear hg)
        | (go_at_call 17; refine (any_any _).mono ?_; rintro e w' ⟨rfl, hg⟩; obtain ⟨q', rfl⟩ := by_of hg; clear hg)
        | (go_at_call 12; refine (in_q x 0#64 (iv x) (iv x) (wrap64 (iv x)) (wrap64 (iv x)) (iv x % 4294967296) (iv x % 4294967296) (sg (iv x)) (sg (iv x)) 0#64 18446744073709551615#64 0 18446744073709551615 (-9223372036854775808) 9223372036854775807 0 4294967295 (-2147483648) 2147483647 true HI.out _).mono ?_; rintro e w' ⟨rfl, hg⟩; obtain ⟨q', rfl⟩ := by_of hg; clear hg)
        | (go_at_call 15; refine (works_any _).mono ?_; rintro e w' ⟨rfl, hg⟩; obtain ⟨q', rfl⟩ := by_of hg; clear hg))
      go_ret
      exact ⟨by simp, HG.out.trans (GrBy.gr _)⟩
end Go.Proofs.YtekenpgagfmgkabGreat
