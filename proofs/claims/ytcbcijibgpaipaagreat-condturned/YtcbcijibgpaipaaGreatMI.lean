/- Towards the statements of package cond (layer 6): what each question tells of two bounds, and that it loses no number, and makes no bound wider. Towards the statements of package cond (layer 6): what is told of bits, and of numbers that are alike. -/
import Derived.Test.YtcbcijibgpaipaaGreatMK
section
namespace Go.Proofs.YtcbcijibgpaipaaGreat
open Go.ChangeShapes Go.WideShapes Go.ChangeAt Go.RowKit
open Tn (iv)
set_option linter.unusedVariables false
set_option linter.unusedSimpArgs false

/-- Ends that are numbers of 64 bits. -/
structure Rng (b : Bd) : Prop where
  ul : InU b.ul
  uh : InU b.uh
  sl : InS b.sl
  sh : InS b.sh
theorem Good.rng {b : Bd} (g : Good b) : Rng b :=
  ⟨⟨g.u0, Int.le_trans g.u1 g.u2⟩, ⟨Int.le_trans g.u0 g.u1, g.u2⟩, ⟨g.s0, Int.le_trans g.s1 g.s2⟩, ⟨Int.le_trans g.s0 g.s1, g.s2⟩⟩
theorem nothing_rng : Rng nothingM := by
  refine ⟨⟨?_, ?_⟩, ⟨?_, ?_⟩, ⟨?_, ?_⟩, ⟨?_, ?_⟩⟩ <;> decide
/-- What is no wider than a bound that may be, and has a number, may be. -/
theorem good_le {a b : Bd} {x : BitVec 64} (g : Good b) (h : Le a b) (k : Has a x) : Good a := by
  have h1 := h.ul; have h2 := h.uh; have h3 := h.sl; have h4 := h.sh; have h5 := h.wl; have h6 := h.wh; have h7 := h.vl; have h8 := h.vh
  have k1 := k.u0; have k2 := k.u1; have k3 := k.s0; have k4 := k.s1; have k5 := k.w0; have k6 := k.w1; have k7 := k.v0; have k8 := k.v1
  refine ⟨?_, Int.le_trans g.u0 h1, Int.le_trans k1 k2, Int.le_trans h2 g.u2, Int.le_trans g.s0 h3, Int.le_trans k3 k4, Int.le_trans h4 g.s2, Int.le_trans g.w0 h5, Int.le_trans k5 k6, Int.le_trans h6 g.w2, Int.le_trans g.v0 h7, Int.le_trans k7 k8, Int.le_trans h8 g.v2⟩
  rw [← k.t]
  ext i hi
  simp
/-- Of a bound of which something is left behind Sync. -/
theorem good_sync {a : Bd} (r : Rng a) (h : nnB (syncM a) = false) : Good a ∧ Le (syncM a) a ∧ Good (syncM a) := by
  cases hb : badM a with
  | true =>
    exfalso
    unfold syncM at h
    rw [hb, if_pos rfl] at h
    revert h
    decide
  | false =>
    have hb' := hb
    unfold badM nnB inR at hb
    simp only [Bool.or_eq_false_iff, Bool.not_eq_false', Bool.and_eq_true, decide_eq_true_eq, decide_eq_false_iff_not, beq_iff_eq] at hb
    obtain ⟨⟨⟨⟨⟨⟨b1, b2⟩, b3⟩, b4⟩, bt⟩, bw⟩, bv⟩ := hb
    have g : Good a := ⟨bt, r.ul.1, by omega, r.uh.2, r.sl.1, by omega, r.sh.2, bw.1.1, by omega, bw.2.2, bv.1.1, by omega, bv.2.2⟩
    refine ⟨g, ?_⟩
    unfold syncM at h ⊢
    rw [hb', if_neg (by decide)] at h ⊢
    cases h1 : roundM a with
    | none => rw [h1] at h; exact absurd h (by decide)
    | some a1 =>
      rw [h1] at h
      have g1 := g.round h1
      cases h2 : roundM a1 with
      | none => rw [Option.bind_some, h2] at h; exact absurd h (by decide)
      | some a2 =>
        rw [Option.bind_some, h2] at h
        have g2 := g1.round h2
        cases h3 : roundM a2 with
        | none => rw [Option.bind_some, h3] at h; exact absurd h (by decide)
        | some a3 =>
          rw [Option.bind_some, h2, Option.bind_some, h3]
          exact ⟨(round_le g2 h3).trans ((round_le g1 h2).trans (round_le g h1)), g2.round h3⟩
theorem nothing_nn : nnB nothingM = true := by decide

/-- What is left of two bounds once they were told something: none, if there is nothing. -/
def refM (t : Option (Bd × Bd)) : Option (Bd × Bd) := match t with
  | none => none
  | some p => if nnB (syncM p.1) || nnB (syncM p.2) then none else some (syncM p.1, syncM p.2)
def rx (r : Option (Bd × Bd)) : Bd := match r with
  | none => nothingM
  | some p => p.1
def ry (r : Option (Bd × Bd)) : Bd := match r with
  | none => nothingM
  | some p => p.2
/-- What a telling must keep: of bounds that may be, no cell leaves its range; where something is left, it is no wider. -/
structure Fair (t : Option (Bd × Bd)) (a b : Bd) : Prop where
  rng : ∀ p, t = some p → Rng p.1 ∧ Rng p.2
  le : ∀ p, t = some p → Good p.1 → Good p.2 → Le p.1 a ∧ Le p.2 b
theorem ref_fair {t : Option (Bd × Bd)} {a b p q : Bd} (f : Fair t a b) (h : refM t = some (p, q)) : Le p a ∧ Le q b ∧ Good p ∧ Good q := by
  unfold refM at h
  cases ht : t with
  | none => rw [ht] at h; cases h
  | some z =>
    rw [ht] at h
    simp only at h
    split at h
    · cases h
    · rename_i hn
      simp only [Bool.or_eq_true, not_or, Bool.not_eq_true] at hn
      simp only [Option.some.injEq, Prod.mk.injEq] at h
      obtain ⟨rfl, rfl⟩ := h
      obtain ⟨r1, r2⟩ := f.rng z ht
      obtain ⟨g1, l1, k1⟩ := good_sync r1 hn.1
      obtain ⟨g2, l2, k2⟩ := good_sync r2 hn.2
      obtain ⟨e1, e2⟩ := f.le z ht g1 g2
      exact ⟨l1.trans e1, l2.trans e2, k1, k2⟩
/-- What a telling must keep of two numbers. -/
def Keeps (t : Option (Bd × Bd)) (a b : Bd) (x y : BitVec 64) : Prop := ∃ p q, t = some (p, q) ∧ Has p x ∧ Has q y ∧ Le p a ∧ Le q b
theorem ref_keeps {t : Option (Bd × Bd)} {a b : Bd} {x y : BitVec 64} (ga : Good a) (gb : Good b) (h : Keeps t a b x y) : ∃ p q, refM t = some (p, q) ∧ Has p x ∧ Has q y ∧ Le p a ∧ Le q b ∧ Good p ∧ Good q := by
  obtain ⟨p, q, rfl, hx, hy, la, lb⟩ := h
  have g1 := good_le ga la hx
  have g2 := good_le gb lb hy
  obtain ⟨h1, l1, k1⟩ := sync_keep g1 hx
  obtain ⟨h2, l2, k2⟩ := sync_keep g2 hy
  refine ⟨syncM p, syncM q, ?_, h1, h2, l1.trans la, l2.trans lb, k1, k2⟩
  show (if nnB (syncM p) || nnB (syncM q) then none else some (syncM p, syncM q)) = _
  rw [nnB_of k1, nnB_of k2]
  rfl

/-- A row without its end n. -/
def woL (l h n : Int) : Int := if l = n ∧ h = n then 1 else if l = n then l + 1 else l
def woH (l h n : Int) : Int := if l = n ∧ h = n then 0 else if l = n then h else if h = n then h - 1 else h
/-- The row without a sign, or its lower half. -/
def spL (wd : Bool) (b : Bd) : Int := if wd then b.ul else b.wl
def spH (wd : Bool) (b : Bd) : Int := if wd then b.uh else b.wh
def outM (wd : Bool) (b : Bd) (l h : Int) : Bd :=
  if l = h then (if wd then { b with ul := woL b.ul b.uh l, uh := woH b.ul b.uh l, sl := woL b.sl b.sh (wrap64 l), sh := woH b.sl b.sh (wrap64 l) }
    else { b with wl := woL b.wl b.wh l, wh := woH b.wl b.wh l, vl := woL b.vl b.vh (sg l), vh := woH b.vl b.vh (sg l) })
  else b
def neM (wd : Bool) (a b : Bd) : Option (Bd × Bd) := some (outM wd a (spL wd b) (spH wd b), outM wd b (spL wd a) (spH wd a))
/-- a's numbers above b's, by g. -/
def gtU (wd : Bool) (g : Int) (a b : Bd) : Option (Bd × Bd) :=
  if wd then (if 0 < g ∧ (18446744073709551615 ≤ b.ul ∨ a.uh ≤ 0) then none else some ({ a with ul := max a.ul (b.ul + g) }, { b with uh := min b.uh (a.uh - g) }))
  else (if 0 < g ∧ (4294967295 ≤ b.wl ∨ a.wh ≤ 0) then none else some ({ a with wl := max a.wl (b.wl + g) }, { b with wh := min b.wh (a.wh - g) }))
def gtS (wd : Bool) (g : Int) (a b : Bd) : Option (Bd × Bd) :=
  if wd then (if 0 < g ∧ (9223372036854775807 ≤ b.sl ∨ a.sh ≤ -9223372036854775808) then none else some ({ a with sl := max a.sl (b.sl + g) }, { b with sh := min b.sh (a.sh - g) }))
  else (if 0 < g ∧ (2147483647 ≤ b.vl ∨ a.vh ≤ -2147483648) then none else some ({ a with vl := max a.vl (b.vl + g) }, { b with vh := min b.vh (a.vh - g) }))
def swapM (t : Option (Bd × Bd)) : Option (Bd × Bd) := t.map fun p => (p.2, p.1)
/-- What both have in common. -/
def meetM (a b : Bd) : Bd := if Tn.meetX a.tv a.tm b.tv b.tm then syncM (meetP a b) else nothingM
def hiM : BitVec 64 := 18446744069414584320#64
def eqM (wd : Bool) (a b : Bd) : Option (Bd × Bd) :=
  if wd then some (meetM a b, meetM a b)
  else if Tn.meetX a.tv a.tm (lowT b.tv) (lowT b.tm ||| hiM) && Tn.meetX b.tv b.tm (lowT a.tv) (lowT a.tm ||| hiM) then
    some ({ a with tv := Tn.mtV a.tv a.tm (lowT b.tv) (lowT b.tm ||| hiM), tm := Tn.mtM a.tv a.tm (lowT b.tv) (lowT b.tm ||| hiM), wl := (meetP a b).wl, wh := (meetP a b).wh, vl := (meetP a b).vl, vh := (meetP a b).vh },
      { b with tv := Tn.mtV b.tv b.tm (lowT a.tv) (lowT a.tm ||| hiM), tm := Tn.mtM b.tv b.tm (lowT a.tv) (lowT a.tm ||| hiM), wl := (meetP a b).wl, wh := (meetP a b).wh, vl := (meetP a b).vl, vh := (meetP a b).vh })
  else none
def ofT (wd : Bool) (x : BitVec 64) : BitVec 64 := if wd then x else lowT x
/-- More known of a bound's bits. -/
def knowM (a : Bd) (v m : BitVec 64) : Option Bd := if Tn.meetX a.tv a.tm v m then some { a with tv := Tn.mtV a.tv a.tm v m, tm := Tn.mtM a.tv a.tm v m } else none
def clearM (wd : Bool) (a b : Bd) : Option (Bd × Bd) :=
  (knowM a 0#64 (~~~(ofT wd b.tv))).bind fun p => (knowM b 0#64 (~~~(ofT wd a.tv))).bind fun q => some (p, q)
def setM (one : BitVec 64 → Bool) (wd : Bool) (a b : Bd) : Option (Bd × Bd) :=
  if ofT wd a.tv &&& ofT wd b.tv = 0#64 ∧ Tn.andM (ofT wd a.tv) (ofT wd a.tm) (ofT wd b.tv) (ofT wd b.tm) = 0#64 then none
  else if ofT wd a.tm = 0#64 ∧ one (ofT wd a.tv) = true then (knowM b (ofT wd a.tv) (~~~(ofT wd a.tv))).map fun q => (a, q)
  else if ofT wd b.tm = 0#64 ∧ one (ofT wd b.tv) = true then (knowM a (ofT wd b.tv) (~~~(ofT wd b.tv))).map fun p => (p, b)
  else some (a, b)

section
variable {l h n z lo hi : Int}
theorem wo_keep (h0 : l ≤ z) (h1 : z ≤ h) (hn : z ≠ n) : woL l h n ≤ z ∧ z ≤ woH l h n ∧ l ≤ woL l h n ∧ woH l h n ≤ h := by
  unfold woL woH
  rw [if_neg (show ¬ (l = n ∧ h = n) by omega), if_neg (show ¬ (l = n ∧ h = n) by omega)]
  by_cases e : l = n
  · rw [if_pos e, if_pos e]
    omega
  · rw [if_neg e, if_neg e]
    by_cases e2 : h = n
    · rw [if_pos e2]
      omega
    · rw [if_neg e2]
      omega
theorem wo_le (k : woL l h n ≤ woH l h n) : l ≤ woL l h n ∧ woH l h n ≤ h := by
  unfold woL woH at *
  by_cases e0 : l = n ∧ h = n
  · rw [if_pos e0, if_pos e0] at k
    omega
  · rw [if_neg e0, if_neg e0]
    by_cases e : l = n
    · rw [if_pos e, if_pos e]
      omega
    · rw [if_neg e, if_neg e]
      by_cases e2 : h = n
      · rw [if_pos e2]
        omega
      · rw [if_neg e2]
        omega
theorem wo_rng (h0 : lo ≤ l) (h1 : l ≤ h) (h2 : h ≤ hi) (h3 : lo ≤ 0) (h4 : 1 ≤ hi) : (lo ≤ woL l h n ∧ woL l h n ≤ hi) ∧ lo ≤ woH l h n ∧ woH l h n ≤ hi := by
  unfold woL woH at *
  by_cases e0 : l = n ∧ h = n
  · rw [if_pos e0, if_pos e0]
    omega
  · rw [if_neg e0, if_neg e0]
    by_cases e : l = n
    · rw [if_pos e, if_pos e]
      omega
    · rw [if_neg e, if_neg e]
      by_cases e2 : h = n
      · rw [if_pos e2]
        omega
      · rw [if_neg e2]
        omega
end
/-- The lower half, or all. -/
def cutI (wd : Bool) (x : BitVec 64) : Int := if wd then iv x else iv x % 4294967296
def sgnI (wd : Bool) (x : BitVec 64) : Int := if wd then wrap64 (iv x) else sg (iv x)
section
variable {a b : Bd} {x y : BitVec 64} {wd : Bool}
theorem wrap_inj (h : iv x ≠ iv y) : wrap64 (iv x) ≠ wrap64 (iv y) := by
  have h1 := inU_iv x
  have h2 := inU_iv y
  unfold InU at h1 h2
  unfold wrap64
  omega
theorem sg_mod (z : Int) : sg (z % 4294967296) = sg z := by
  unfold sg
  omega
theorem sg_inj (h : iv x % 4294967296 ≠ iv y % 4294967296) : sg (iv x) ≠ sg (iv y) := by
  unfold sg
  omega
theorem out_keep (ka : Has a x) (kb : Has b y) (g : Good a) (h : cutI wd x ≠ cutI wd y) : Has (outM wd a (spL wd b) (spH wd b)) x ∧ Le (outM wd a (spL wd b) (spH wd b)) a := by
  have r := Le.refl a g.t
  unfold outM
  split
  · rename_i e
    cases wd with
    | true =>
      simp only [cutI, spL, spH, if_true] at h e ⊢
      have e1 : b.ul = iv y := by have := kb.u0; have := kb.u1; omega
      rw [e1]
      obtain ⟨u0, u1, u2, u3⟩ := wo_keep ka.u0 ka.u1 h
      obtain ⟨s0, s1, s2, s3⟩ := wo_keep ka.s0 ka.s1 (wrap_inj h)
      exact ⟨⟨ka.t, u0, u1, s0, s1, ka.w0, ka.w1, ka.v0, ka.v1⟩, ⟨r.m, r.v, u2, u3, s2, s3, r.wl, r.wh, r.vl, r.vh⟩⟩
    | false =>
      simp only [cutI, spL, spH, Bool.false_eq_true, if_false] at h e ⊢
      have e1 : b.wl = iv y % 4294967296 := by have := kb.w0; have := kb.w1; omega
      rw [e1, sg_mod]
      obtain ⟨u0, u1, u2, u3⟩ := wo_keep ka.w0 ka.w1 h
      obtain ⟨s0, s1, s2, s3⟩ := wo_keep ka.v0 ka.v1 (sg_inj h)
      exact ⟨⟨ka.t, ka.u0, ka.u1, ka.s0, ka.s1, u0, u1, s0, s1⟩, ⟨r.m, r.v, r.ul, r.uh, r.sl, r.sh, u2, u3, s2, s3⟩⟩
  · exact ⟨ka, r⟩
theorem out_rng (g : Good a) (l h : Int) : Rng (outM wd a l h) := by
  have r := g.rng
  unfold outM
  split
  · cases wd with
    | true =>
      obtain ⟨u0, u1⟩ := wo_rng (n := l) g.u0 g.u1 g.u2 (by omega) (by omega)
      obtain ⟨s0, s1⟩ := wo_rng (n := wrap64 l) g.s0 g.s1 g.s2 (by omega) (by omega)
      exact ⟨u0, u1, s0, s1⟩
    | false => exact ⟨r.ul, r.uh, r.sl, r.sh⟩
  · exact r
theorem out_le (g : Good a) (l h : Int) (k : Good (outM wd a l h)) : Le (outM wd a l h) a := by
  have r := Le.refl a g.t
  unfold outM at k ⊢
  split
  · rename_i e
    rw [if_pos e] at k
    cases wd with
    | true =>
      obtain ⟨u2, u3⟩ := wo_le k.u1
      obtain ⟨s2, s3⟩ := wo_le k.s1
      exact ⟨r.m, r.v, u2, u3, s2, s3, r.wl, r.wh, r.vl, r.vh⟩
    | false =>
      obtain ⟨u2, u3⟩ := wo_le k.w1
      obtain ⟨s2, s3⟩ := wo_le k.v1
      exact ⟨r.m, r.v, r.ul, r.uh, r.sl, r.sh, u2, u3, s2, s3⟩
  · exact r
theorem ne_keeps (ga : Good a) (gb : Good b) (ka : Has a x) (kb : Has b y) (h : cutI wd x ≠ cutI wd y) : Keeps (neM wd a b) a b x y :=
  ⟨_, _, rfl, (out_keep ka kb ga h).1, (out_keep kb ka gb (Ne.symm h)).1, (out_keep ka kb ga h).2, (out_keep kb ka gb (Ne.symm h)).2⟩
theorem ne_fair (ga : Good a) (gb : Good b) : Fair (neM wd a b) a b := by
  refine ⟨?_, ?_⟩
  · rintro p h
    cases h
    exact ⟨out_rng ga _ _, out_rng gb _ _⟩
  · rintro p h k1 k2
    cases h
    exact ⟨out_le ga _ _ k1, out_le gb _ _ k2⟩
theorem gtU_keeps {g : Int} (hg : g = 0 ∨ g = 1) (ga : Good a) (gb : Good b) (ka : Has a x) (kb : Has b y) (h : cutI wd y + g ≤ cutI wd x) : Keeps (gtU wd g a b) a b x y := by
  have ra := Le.refl a ga.t
  have rb := Le.refl b gb.t
  have h1 := ka.u0; have h2 := ka.u1; have h3 := ka.w0; have h4 := ka.w1
  have k1 := kb.u0; have k2 := kb.u1; have k3 := kb.w0; have k4 := kb.w1
  have i1 := ga.u2; have i2 := ga.w2; have i3 := gb.u0; have i4 := gb.w0
  unfold gtU
  cases wd with
  | true =>
    simp only [cutI, if_true] at h ⊢
    rw [if_neg (show ¬ (0 < g ∧ (18446744073709551615 ≤ b.ul ∨ a.uh ≤ 0)) by omega)]
    exact ⟨_, _, rfl, ⟨ka.t, (by simp; omega), h2, ka.s0, ka.s1, h3, h4, ka.v0, ka.v1⟩, ⟨kb.t, k1, (by simp; omega), kb.s0, kb.s1, k3, k4, kb.v0, kb.v1⟩, ⟨ra.m, ra.v, (by simp; omega), ra.uh, ra.sl, ra.sh, ra.wl, ra.wh, ra.vl, ra.vh⟩, ⟨rb.m, rb.v, rb.ul, (by simp; omega), rb.sl, rb.sh, rb.wl, rb.wh, rb.vl, rb.vh⟩⟩
  | false =>
    simp only [cutI, Bool.false_eq_true, if_false] at h ⊢
    rw [if_neg (show ¬ (0 < g ∧ (4294967295 ≤ b.wl ∨ a.wh ≤ 0)) by omega)]
    exact ⟨_, _, rfl, ⟨ka.t, h1, h2, ka.s0, ka.s1, (by simp; omega), h4, ka.v0, ka.v1⟩, ⟨kb.t, k1, k2, kb.s0, kb.s1, k3, (by simp; omega), kb.v0, kb.v1⟩, ⟨ra.m, ra.v, ra.ul, ra.uh, ra.sl, ra.sh, (by simp; omega), ra.wh, ra.vl, ra.vh⟩, ⟨rb.m, rb.v, rb.ul, rb.uh, rb.sl, rb.sh, rb.wl, (by simp; omega), rb.vl, rb.vh⟩⟩
theorem gtS_keeps {g : Int} (hg : g = 0 ∨ g = 1) (ga : Good a) (gb : Good b) (ka : Has a x) (kb : Has b y) (h : sgnI wd y + g ≤ sgnI wd x) : Keeps (gtS wd g a b) a b x y := by
  have ra := Le.refl a ga.t
  have rb := Le.refl b gb.t
  have h1 := ka.s0; have h2 := ka.s1; have h3 := ka.v0; have h4 := ka.v1
  have k1 := kb.s0; have k2 := kb.s1; have k3 := kb.v0; have k4 := kb.v1
  have i1 := ga.s2; have i2 := ga.v2; have i3 := gb.s0; have i4 := gb.v0
  unfold gtS
  cases wd with
  | true =>
    simp only [sgnI, if_true] at h ⊢
    rw [if_neg (show ¬ (0 < g ∧ (9223372036854775807 ≤ b.sl ∨ a.sh ≤ -9223372036854775808)) by omega)]
    exact ⟨_, _, rfl, ⟨ka.t, ka.u0, ka.u1, (by simp; omega), h2, ka.w0, ka.w1, h3, h4⟩, ⟨kb.t, kb.u0, kb.u1, k1, (by simp; omega), kb.w0, kb.w1, k3, k4⟩, ⟨ra.m, ra.v, ra.ul, ra.uh, (by simp; omega), ra.sh, ra.wl, ra.wh, ra.vl, ra.vh⟩, ⟨rb.m, rb.v, rb.ul, rb.uh, rb.sl, (by simp; omega), rb.wl, rb.wh, rb.vl, rb.vh⟩⟩
  | false =>
    simp only [sgnI, Bool.false_eq_true, if_false] at h ⊢
    rw [if_neg (show ¬ (0 < g ∧ (2147483647 ≤ b.vl ∨ a.vh ≤ -2147483648)) by omega)]
    exact ⟨_, _, rfl, ⟨ka.t, ka.u0, ka.u1, h1, h2, ka.w0, ka.w1, (by simp; omega), h4⟩, ⟨kb.t, kb.u0, kb.u1, k1, k2, kb.w0, kb.w1, k3, (by simp; omega)⟩, ⟨ra.m, ra.v, ra.ul, ra.uh, ra.sl, ra.sh, ra.wl, ra.wh, (by simp; omega), ra.vh⟩, ⟨rb.m, rb.v, rb.ul, rb.uh, rb.sl, rb.sh, rb.wl, rb.wh, rb.vl, (by simp; omega)⟩⟩
theorem gtU_fair {g : Int} (hg : g = 0 ∨ g = 1) (ga : Good a) (gb : Good b) : Fair (gtU wd g a b) a b := by
  have ra := Le.refl a ga.t
  have rb := Le.refl b gb.t
  have qa := ga.rng
  have qb := gb.rng
  have h1 := ga.u0; have h2 := ga.u1; have h3 := ga.u2
  have k1 := gb.u0; have k2 := gb.u1; have k3 := gb.u2
  unfold gtU
  refine ⟨?_, ?_⟩
  · rintro p h
    cases wd with
    | true =>
      simp only [if_true] at h
      split at h
      · cases h
      · cases h
        refine ⟨⟨⟨?_, ?_⟩, qa.uh, qa.sl, qa.sh⟩, ⟨qb.ul, ⟨?_, ?_⟩, qb.sl, qb.sh⟩⟩ <;> simp <;> omega
    | false =>
      simp only [Bool.false_eq_true, if_false] at h
      split at h
      · cases h
      · cases h
        exact ⟨⟨qa.ul, qa.uh, qa.sl, qa.sh⟩, ⟨qb.ul, qb.uh, qb.sl, qb.sh⟩⟩
  · rintro p h - -
    cases wd with
    | true =>
      simp only [if_true] at h
      split at h
      · cases h
      · cases h
        exact ⟨⟨ra.m, ra.v, (by simp; omega), ra.uh, ra.sl, ra.sh, ra.wl, ra.wh, ra.vl, ra.vh⟩, ⟨rb.m, rb.v, rb.ul, (by simp; omega), rb.sl, rb.sh, rb.wl, rb.wh, rb.vl, rb.vh⟩⟩
    | false =>
      simp only [Bool.false_eq_true, if_false] at h
      split at h
      · cases h
      · cases h
        exact ⟨⟨ra.m, ra.v, ra.ul, ra.uh, ra.sl, ra.sh, (by simp; omega), ra.wh, ra.vl, ra.vh⟩, ⟨rb.m, rb.v, rb.ul, rb.uh, rb.sl, rb.sh, rb.wl, (by simp; omega), rb.vl, rb.vh⟩⟩
theorem gtS_fair {g : Int} (hg : g = 0 ∨ g = 1) (ga : Good a) (gb : Good b) : Fair (gtS wd g a b) a b := by
  have ra := Le.refl a ga.t
  have rb := Le.refl b gb.t
  have qa := ga.rng
  have qb := gb.rng
  have h1 := ga.s0; have h2 := ga.s1; have h3 := ga.s2
  have k1 := gb.s0; have k2 := gb.s1; have k3 := gb.s2
  unfold gtS
  refine ⟨?_, ?_⟩
  · rintro p h
    cases wd with
    | true =>
      simp only [if_true] at h
      split at h
      · cases h
      · cases h
        refine ⟨⟨qa.ul, qa.uh, ⟨?_, ?_⟩, qa.sh⟩, ⟨qb.ul, qb.uh, qb.sl, ⟨?_, ?_⟩⟩⟩ <;> simp <;> omega
    | false =>
      simp only [Bool.false_eq_true, if_false] at h
      split at h
      · cases h
      · cases h
        exact ⟨⟨qa.ul, qa.uh, qa.sl, qa.sh⟩, ⟨qb.ul, qb.uh, qb.sl, qb.sh⟩⟩
  · rintro p h - -
    cases wd with
    | true =>
      simp only [if_true] at h
      split at h
      · cases h
      · cases h
        exact ⟨⟨ra.m, ra.v, ra.ul, ra.uh, (by simp; omega), ra.sh, ra.wl, ra.wh, ra.vl, ra.vh⟩, ⟨rb.m, rb.v, rb.ul, rb.uh, rb.sl, (by simp; omega), rb.wl, rb.wh, rb.vl, rb.vh⟩⟩
    | false =>
      simp only [Bool.false_eq_true, if_false] at h
      split at h
      · cases h
      · cases h
        exact ⟨⟨ra.m, ra.v, ra.ul, ra.uh, ra.sl, ra.sh, ra.wl, ra.wh, (by simp; omega), ra.vh⟩, ⟨rb.m, rb.v, rb.ul, rb.uh, rb.sl, rb.sh, rb.wl, rb.wh, rb.vl, (by simp; omega)⟩⟩
theorem swap_keeps {t : Option (Bd × Bd)} (h : Keeps t b a y x) : Keeps (swapM t) a b x y := by
  obtain ⟨p, q, rfl, h1, h2, h3, h4⟩ := h
  exact ⟨q, p, rfl, h2, h1, h4, h3⟩
theorem swap_fair {t : Option (Bd × Bd)} (h : Fair t b a) : Fair (swapM t) a b := by
  cases t with
  | none => exact ⟨fun p h => (by cases h), fun p h => (by cases h)⟩
  | some z =>
    refine ⟨?_, ?_⟩
    · rintro p e
      cases e
      exact ⟨(h.rng z rfl).2, (h.rng z rfl).1⟩
    · rintro p e g1 g2
      cases e
      exact ⟨(h.le z rfl g2 g1).2, (h.le z rfl g2 g1).1⟩
theorem same_fair (ga : Good a) (gb : Good b) : Fair (some (a, b)) a b := by
  refine ⟨?_, ?_⟩
  · rintro p e
    cases e
    exact ⟨ga.rng, gb.rng⟩
  · rintro p e - -
    cases e
    exact ⟨Le.refl a ga.t, Le.refl b gb.t⟩
theorem same_keeps (ga : Good a) (gb : Good b) (ka : Has a x) (kb : Has b y) : Keeps (some (a, b)) a b x y :=
  ⟨a, b, rfl, ka, kb, Le.refl a ga.t, Le.refl b gb.t⟩
theorem none_fair : Fair none a b := ⟨fun p h => (by cases h), fun p h => (by cases h)⟩
end
end Go.Proofs.YtcbcijibgpaipaaGreat
end
section
namespace Go.Proofs.YtcbcijibgpaipaaGreat
open Go.ChangeShapes Go.WideShapes Go.ChangeAt Go.RowKit
open Tn (iv)
set_option linter.unusedVariables false
set_option linter.unusedSimpArgs false

theorem know_eq (a : Bd) (v m : BitVec 64) : knowM a v m = mT a v m := by
  unfold knowM mT Tn.mtV Tn.mtM
  cases h : Tn.meetX a.tv a.tm v m
  · rfl
  · simp
theorem mT_rng {a c : Bd} {v m : BitVec 64} (r : Rng a) (h : mT a v m = some c) : Rng c := by
  unfold mT at h
  split at h
  · cases h
    exact ⟨r.ul, r.uh, r.sl, r.sh⟩
  · cases h
def inT (wd : Bool) (i : Nat) : Bool := wd || decide (i < 32)
theorem ofT_bit (wd : Bool) (x : BitVec 64) (i : Nat) (hi : i < 64) : (ofT wd x)[i] = (x[i] && inT wd i) := by
  cases wd with
  | true => simp [ofT, inT]
  | false => simp [ofT, inT, lowT_bit]
section
variable {a b : Bd} {x y : BitVec 64} {wd : Bool}
theorem clear_keeps (ga : Good a) (gb : Good b) (ka : Has a x) (kb : Has b y) (h : ofT wd x &&& ofT wd y = 0#64) : Keeps (clearM wd a b) a b x y := by
  unfold clearM
  rw [know_eq, know_eq]
  have ha := ka.t
  have hb := kb.t
  obtain ⟨p, hp, kp⟩ := mT_keep (v := 0#64) (m := ~~~(ofT wd b.tv)) ka (by
    rw [← hb]
    ext i hi
    have e := congrArg (fun z => z.getLsbD i) h
    simp [hi, ofT_bit] at e
    simp [hi, ofT_bit]
    cases h1 : x[i] <;> cases h2 : y[i] <;> cases h3 : inT wd i <;> simp_all)
  obtain ⟨q, hq, kq⟩ := mT_keep (v := 0#64) (m := ~~~(ofT wd a.tv)) kb (by
    rw [← ha]
    ext i hi
    have e := congrArg (fun z => z.getLsbD i) h
    simp [hi, ofT_bit] at e
    simp [hi, ofT_bit]
    cases h1 : x[i] <;> cases h2 : y[i] <;> cases h3 : inT wd i <;> simp_all)
  refine ⟨p, q, ?_, kp, kq, mT_le ga.t (by simp) hp, mT_le gb.t (by simp) hq⟩
  rw [hp, Option.bind_some, hq, Option.bind_some]
theorem clear_fair (ga : Good a) (gb : Good b) : Fair (clearM wd a b) a b := by
  unfold clearM
  rw [know_eq, know_eq]
  cases hp : mT a 0#64 (~~~(ofT wd b.tv)) with
  | none => exact none_fair
  | some p =>
    cases hq : mT b 0#64 (~~~(ofT wd a.tv)) with
    | none => exact none_fair
    | some q =>
      refine ⟨?_, ?_⟩
      · rintro z e
        cases e
        exact ⟨mT_rng ga.rng hp, mT_rng gb.rng hq⟩
      · rintro z e - -
        cases e
        exact ⟨mT_le ga.t (by simp) hp, mT_le gb.t (by simp) hq⟩
/-- One bit alone. -/
def One1 (one : BitVec 64 → Bool) : Prop := ∀ v, one v = true → ∃ k, k < 64 ∧ ∀ i, (hi : i < 64) → v[i] = decide (i = k)
theorem one_has {one : BitVec 64 → Bool} (ho : One1 one) (ka : Has a x) (hm : ofT wd a.tm = 0#64) (h1 : one (ofT wd a.tv) = true) (h : ofT wd x &&& ofT wd y ≠ 0#64) : y &&& ~~~(~~~(ofT wd a.tv)) = ofT wd a.tv := by
  obtain ⟨k, hk, hv⟩ := ho _ h1
  have ex : ofT wd x = ofT wd a.tv := by
    rw [← ka.t]
    ext i hi
    have e := congrArg (fun z => z.getLsbD i) hm
    simp [hi, ofT_bit] at e
    simp [hi, ofT_bit]
    cases h1 : x[i] <;> cases h2 : a.tm[i] <;> cases h3 : inT wd i <;> simp_all
  have hy : y[k] = true := by
    cases hyk : y[k] with
    | true => rfl
    | false =>
      exfalso
      apply h
      rw [ex]
      ext i hi
      have hvi := hv i hi
      simp only [BitVec.getElem_and, BitVec.getElem_zero, hvi, ofT_bit]
      by_cases e : i = k
      · subst e
        simp [hyk]
      · simp [e]
  ext i hi
  have hvi := hv i hi
  simp only [BitVec.getElem_and, BitVec.getElem_not, Bool.not_not, hvi]
  by_cases e : i = k
  · subst e
    simp [hy]
  · simp [e]
theorem set_keeps {one : BitVec 64 → Bool} (ho : One1 one) (ga : Good a) (gb : Good b) (ka : Has a x) (kb : Has b y) (h : ofT wd x &&& ofT wd y ≠ 0#64) : Keeps (setM one wd a b) a b x y := by
  have ha := ka.t
  have hb := kb.t
  unfold setM
  split
  · rename_i e
    exfalso
    apply h
    obtain ⟨e1, e2⟩ := e
    rw [← ha, ← hb] at e1
    unfold Tn.andM at e2
    rw [← ha, ← hb] at e2
    ext i hi
    have f1 := congrArg (fun z => z.getLsbD i) e1
    have f2 := congrArg (fun z => z.getLsbD i) e2
    simp [hi, ofT_bit] at f1 f2
    simp [hi, ofT_bit]
    cases h1 : x[i] <;> cases h2 : y[i] <;> cases h3 : a.tm[i] <;> cases h4 : b.tm[i] <;> cases h5 : inT wd i <;> simp_all
  · split
    · rename_i e
      rw [know_eq]
      obtain ⟨q, hq, kq⟩ := mT_keep kb (one_has ho ka e.1 e.2 h)
      rw [hq]
      exact ⟨a, q, rfl, ka, kq, Le.refl a ga.t, mT_le gb.t (by simp) hq⟩
    · split
      · rename_i e
        rw [know_eq]
        obtain ⟨p, hp, kp⟩ := mT_keep ka (one_has ho kb e.1 e.2 (by rw [BitVec.and_comm]; exact h))
        rw [hp]
        exact ⟨p, b, rfl, kp, kb, mT_le ga.t (by simp) hp, Le.refl b gb.t⟩
      · exact same_keeps ga gb ka kb
theorem set_fair {one : BitVec 64 → Bool} (ga : Good a) (gb : Good b) : Fair (setM one wd a b) a b := by
  unfold setM
  split
  · exact none_fair
  · split
    · rw [know_eq]
      cases hq : mT b (ofT wd a.tv) (~~~(ofT wd a.tv)) with
      | none => exact none_fair
      | some q =>
        refine ⟨?_, ?_⟩
        · rintro z e
          cases e
          exact ⟨ga.rng, mT_rng gb.rng hq⟩
        · rintro z e - -
          cases e
          exact ⟨Le.refl a ga.t, mT_le gb.t (by simp) hq⟩
    · split
      · rw [know_eq]
        cases hp : mT a (ofT wd b.tv) (~~~(ofT wd b.tv)) with
        | none => exact none_fair
        | some p =>
          refine ⟨?_, ?_⟩
          · rintro z e
            cases e
            exact ⟨mT_rng ga.rng hp, gb.rng⟩
          · rintro z e - -
            cases e
            exact ⟨mT_le ga.t (by simp) hp, Le.refl b gb.t⟩
      · exact same_fair ga gb
theorem eN_rng {p : Bool} {l r lo hi : Int} (h1 : lo ≤ l ∧ l ≤ hi) (h2 : lo ≤ r ∧ r ≤ hi) : lo ≤ eN p l r ∧ eN p l r ≤ hi := by
  cases p
  · exact h2
  · exact h1
theorem meetP_rng (ga : Good a) (gb : Good b) : Rng (meetP a b) := by
  have h1 := ga.u0; have h2 := ga.u1; have h3 := ga.u2; have h4 := ga.s0; have h5 := ga.s1; have h6 := ga.s2
  have k1 := gb.u0; have k2 := gb.u1; have k3 := gb.u2; have k4 := gb.s0; have k5 := gb.s1; have k6 := gb.s2
  exact ⟨eN_rng (by omega) (by omega), eN_rng (by omega) (by omega), eN_rng (by omega) (by omega), eN_rng (by omega) (by omega)⟩
/-- A row that both have in common, if there is one. -/
theorem mm_le2 {l h l' h' : Int} (k : eN (decide (min h h' < max l l')) 1 (max l l') ≤ eN (decide (min h h' < max l l')) 0 (min h h')) : l ≤ eN (decide (min h h' < max l l')) 1 (max l l') ∧ eN (decide (min h h' < max l l')) 0 (min h h') ≤ h := by
  cases e : decide (min h h' < max l l') with
  | true =>
    rw [e] at k
    simp [eN] at k
  | false =>
    simp [eN]
    omega
theorem sync_orN (a : Bd) (r : Rng a) : Rng (syncM a) := by
  cases h : nnB (syncM a) with
  | false => exact (good_sync r h).2.2.rng
  | true =>
    have hb : badM a = true ∨ badM a = false := by cases badM a <;> simp
    rcases hb with hb | hb
    · unfold syncM
      rw [hb, if_pos rfl]
      exact nothing_rng
    · have g : Good a := good_of hb r.ul.1 r.uh.2 r.sl.1 r.sh.2
      unfold syncM
      rw [hb, if_neg (by decide)]
      cases h1 : roundM a with
      | none => exact nothing_rng
      | some a1 =>
        have g1 := g.round h1
        rw [Option.bind_some]
        cases h2 : roundM a1 with
        | none => exact nothing_rng
        | some a2 =>
          have g2 := g1.round h2
          rw [Option.bind_some]
          cases h3 : roundM a2 with
          | none => exact nothing_rng
          | some a3 => exact (g2.round h3).rng
theorem meetM_rng (ga : Good a) (gb : Good b) : Rng (meetM a b) := by
  unfold meetM
  split
  · exact sync_orN _ (meetP_rng ga gb)
  · exact nothing_rng
theorem meetM_le (ga : Good a) (gb : Good b) (g : Good (meetM a b)) : Le (meetM a b) a := by
  unfold meetM at *
  split
  · rename_i e
    rw [if_pos e] at g
    obtain ⟨g1, l1, g2⟩ := good_sync (meetP_rng ga gb) (nnB_of g)
    refine l1.trans ?_
    have t : mT a b.tv b.tm = some { a with tv := (meetP a b).tv, tm := (meetP a b).tm } := by
      rw [← know_eq]
      unfold knowM
      rw [if_pos e]
      rfl
    have l := mT_le ga.t gb.t t
    obtain ⟨u0, u1⟩ := mm_le2 g1.u1
    obtain ⟨s0, s1⟩ := mm_le2 g1.s1
    obtain ⟨w0, w1⟩ := mm_le2 g1.w1
    obtain ⟨v0, v1⟩ := mm_le2 g1.v1
    exact ⟨l.m, l.v, u0, u1, s0, s1, w0, w1, v0, v1⟩
  · rename_i e
    rw [if_neg e] at g
    exact absurd g.u1 (by decide)
theorem meetM_comm (a b : Bd) : meetM a b = meetM b a := by
  unfold meetM
  rw [meetX_comm, meetP_comm]
theorem eq_fair (ga : Good a) (gb : Good b) : Fair (eqM wd a b) a b := by
  cases wd with
  | true =>
    refine ⟨?_, ?_⟩
    · rintro z e
      cases e
      exact ⟨meetM_rng ga gb, meetM_rng ga gb⟩
    · rintro z e g1 g2
      cases e
      refine ⟨meetM_le ga gb g1, ?_⟩
      show Le (meetM a b) b
      have g1' : Good (meetM a b) := g1
      rw [meetM_comm] at g1' ⊢
      exact meetM_le gb ga g1'
  | false =>
    unfold eqM
    rw [if_neg (by decide)]
    split
    · rename_i e
      rw [Bool.and_eq_true] at e
      refine ⟨?_, ?_⟩
      · rintro z h
        cases h
        exact ⟨⟨ga.rng.ul, ga.rng.uh, ga.rng.sl, ga.rng.sh⟩, ⟨gb.rng.ul, gb.rng.uh, gb.rng.sl, gb.rng.sh⟩⟩
      · rintro z h g1 g2
        cases h
        have low_ok : ∀ {v m : BitVec 64}, v &&& m = 0#64 → lowT v &&& (lowT m ||| hiM) = 0#64 := by
          intro v m h
          ext i hi
          have e := congrArg (fun z => z.getLsbD i) h
          simp [hi] at e
          simp [hi, lowT_bit, hiM, hi_bit]
          cases h1 : v[i] <;> cases h2 : m[i] <;> simp_all
        have ta : mT a (lowT b.tv) (lowT b.tm ||| hiM) = some { a with tv := Tn.mtV a.tv a.tm (lowT b.tv) (lowT b.tm ||| hiM), tm := Tn.mtM a.tv a.tm (lowT b.tv) (lowT b.tm ||| hiM) } := by
          rw [← know_eq]
          exact if_pos e.1
        have tb : mT b (lowT a.tv) (lowT a.tm ||| hiM) = some { b with tv := Tn.mtV b.tv b.tm (lowT a.tv) (lowT a.tm ||| hiM), tm := Tn.mtM b.tv b.tm (lowT a.tv) (lowT a.tm ||| hiM) } := by
          rw [← know_eq]
          exact if_pos e.2
        have la := mT_le ga.t (low_ok gb.t) ta
        have lb := mT_le gb.t (low_ok ga.t) tb
        obtain ⟨w0, w1⟩ := mm_le2 g1.w1
        obtain ⟨v0, v1⟩ := mm_le2 g1.v1
        have g2w := g2.w1
        have g2v := g2.v1
        simp only at g2w g2v
        rw [meetP_comm a b] at g2w g2v
        obtain ⟨w2, w3⟩ := mm_le2 g2w
        obtain ⟨v2, v3⟩ := mm_le2 g2v
        refine ⟨⟨la.m, la.v, la.ul, la.uh, la.sl, la.sh, w0, w1, v0, v1⟩, ?_⟩
        rw [meetP_comm a b]
        exact ⟨lb.m, lb.v, lb.ul, lb.uh, lb.sl, lb.sh, w2, w3, v2, v3⟩
    · exact none_fair
theorem low_of_mod (h : iv x % 4294967296 = iv y % 4294967296) : lowT x = lowT y := by
  have h1 := low_mod x
  have h2 := low_mod y
  apply BitVec.eq_of_toNat_eq
  have e1 : ((lowT x).toNat : Int) = iv x % 4294967296 := h1
  have e2 : ((lowT y).toNat : Int) = iv y % 4294967296 := h2
  omega
theorem iv_inj (h : iv x = iv y) : x = y := by
  apply BitVec.eq_of_toNat_eq
  have e1 : ((x).toNat : Int) = iv x := rfl
  have e2 : ((y).toNat : Int) = iv y := rfl
  omega
theorem eq_keeps (ga : Good a) (gb : Good b) (ka : Has a x) (kb : Has b y) (h : cutI wd x = cutI wd y) : Keeps (eqM wd a b) a b x y := by
  cases wd with
  | true =>
    have e := iv_inj (show iv x = iv y from h)
    subst e
    obtain ⟨h1, h2, h3, h4⟩ := meet_keep ga gb ka kb
    have e : eqM true a b = some (syncM (meetP a b), syncM (meetP a b)) := by
      unfold eqM meetM
      rw [if_pos rfl, if_pos (meetX_of ka kb)]
    exact ⟨_, _, e, h1, h1, h2, h3⟩
  | false =>
    have hm : iv x % 4294967296 = iv y % 4294967296 := h
    have hl := low_of_mod hm
    have hs : sg (iv x) = sg (iv y) := by rw [← sg_mod, hm, sg_mod]
    have half : ∀ {a b : Bd} {x y : BitVec 64}, Has a x → Has b y → lowT x = lowT y → x &&& ~~~(lowT b.tm ||| hiM) = lowT b.tv := by
      intro a b x y ka kb hl
      rw [← kb.t]
      ext i hi
      have e := congrArg (fun z => z.getLsbD i) hl
      simp [hi, lowT_bit] at e
      simp [hi, lowT_bit, hiM, hi_bit]
      by_cases k : i < 32
      · simp [k] at e
        have k2 : ¬ 32 ≤ i := by omega
        simp [k, k2, e]
      · simp [k]
        intros
        omega
    have low_ok : ∀ {v m : BitVec 64}, v &&& m = 0#64 → lowT v &&& (lowT m ||| hiM) = 0#64 := by
      intro v m h
      ext i hi
      have e := congrArg (fun z => z.getLsbD i) h
      simp [hi] at e
      simp [hi, lowT_bit, hiM, hi_bit]
      cases h1 : v[i] <;> cases h2 : m[i] <;> simp_all
    obtain ⟨p, hp, kp⟩ := mT_keep ka (half ka kb hl)
    obtain ⟨q, hq, kq⟩ := mT_keep kb (half kb ka hl.symm)
    have la := mT_le ga.t (low_ok gb.t) hp
    have lb := mT_le gb.t (low_ok ga.t) hq
    rw [← know_eq] at hp hq
    unfold knowM at hp hq
    split at hp
    · split at hq
      · rename_i e1 e2
        cases hp
        cases hq
        have e : eqM false a b = some ({ a with tv := Tn.mtV a.tv a.tm (lowT b.tv) (lowT b.tm ||| hiM), tm := Tn.mtM a.tv a.tm (lowT b.tv) (lowT b.tm ||| hiM), wl := (meetP a b).wl, wh := (meetP a b).wh, vl := (meetP a b).vl, vh := (meetP a b).vh },
          { b with tv := Tn.mtV b.tv b.tm (lowT a.tv) (lowT a.tm ||| hiM), tm := Tn.mtM b.tv b.tm (lowT a.tv) (lowT a.tm ||| hiM), wl := (meetP a b).wl, wh := (meetP a b).wh, vl := (meetP a b).vl, vh := (meetP a b).vh }) := by
          unfold eqM
          rw [if_neg (by decide), e1, e2]
          rfl
        have a1 := ka.w0; have a2 := ka.w1; have a3 := ka.v0; have a4 := ka.v1
        have b1 := kb.w0; have b2 := kb.w1; have b3 := kb.v0; have b4 := kb.v1
        rw [← hm] at b1 b2
        rw [← hs] at b3 b4
        have hw : (meetP a b).wl = max a.wl b.wl ∧ (meetP a b).wh = min a.wh b.wh := by
          unfold meetP
          simp only [mm_not a1 a2 b1 b2]
          exact ⟨rfl, rfl⟩
        have hv : (meetP a b).vl = max a.vl b.vl ∧ (meetP a b).vh = min a.vh b.vh := by
          unfold meetP
          simp only [mm_not a3 a4 b3 b4]
          exact ⟨rfl, rfl⟩
        rw [hw.1, hw.2, hv.1, hv.2] at e
        refine ⟨_, _, e, ⟨kp.t, kp.u0, kp.u1, kp.s0, kp.s1, ?_, ?_, ?_, ?_⟩, ⟨kq.t, kq.u0, kq.u1, kq.s0, kq.s1, ?_, ?_, ?_, ?_⟩, ⟨la.m, la.v, la.ul, la.uh, la.sl, la.sh, ?_, ?_, ?_, ?_⟩, ⟨lb.m, lb.v, lb.ul, lb.uh, lb.sl, lb.sh, ?_, ?_, ?_, ?_⟩⟩ <;> simp only [← hm, ← hs] <;> omega
      · cases hq
    · cases hp
end
end Go.Proofs.YtcbcijibgpaipaaGreat
end
