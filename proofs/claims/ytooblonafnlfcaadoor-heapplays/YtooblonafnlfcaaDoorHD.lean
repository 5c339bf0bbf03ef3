/- Towards the statements of package handle (layer 13): Make and Drop, whatever they are asked. -/
import Derived.Test.YtooblonafnlfcaaDoorHC
namespace Go.Proofs.YtooblonafnlfcaaDoor.H
open Go.ChangeShapes Go.WideShapes Go.ChangeAt Go.RowKit
set_option linter.unusedVariables false
set_option linter.unusedSimpArgs false
set_option maxRecDepth 20000
theorem Tb.mono {w : World} {B b m1 m2 : Nat} {N : Int → Nat} {L : Int → Option Nat} {n n' : Nat} (h : Tb w B b m1 m2 N L n) (e : n ≤ n') (hn : n' ≤ 1000000) : Tb w B b m1 m2 N L n' := by
  obtain ⟨F, h1, h2⟩ := h.im1
  exact ⟨h.cells, h.bB, h.b1, h.b2, h.ne, hn, ⟨F, h1.mono e, h2⟩, h.im2.mono e, fun k => Nat.le_trans (h.bd k) e, h.gen⟩
theorem Tb.base {w : World} {B B' b m1 m2 : Nat} {N : Int → Nat} {L : Int → Option Nat} {n : Nat} (h : Tb w B b m1 m2 N L n) (e : B' ≤ B) : Tb w B' b m1 m2 N L n := by
  have := h.bB; have := h.b1; have := h.b2
  exact ⟨h.cells, by omega, by omega, by omega, h.ne, h.nb, h.im1, h.im2, h.bd, h.gen⟩
def mkE (L : Int → Option Nat) (s : Int) : Int := if s < 0 then 2 else if (L s).isSome then 7 else 0
def mkS (L : Int → Option Nat) (s : Int) : Int := if mkE L s = 0 then s else 0
def mkG (N : Int → Nat) (L : Int → Option Nat) (s : Int) : Nat := if mkE L s = 0 then N s + 1 else 0
def mkN (N : Int → Nat) (L : Int → Option Nat) (s : Int) : Int → Nat := if mkE L s = 0 then updN N s (N s + 1) else N
def mkL (N : Int → Nat) (L : Int → Option Nat) (s : Int) : Int → Option Nat := if mkE L s = 0 then updL L s (some (N s + 1)) else L
theorem make_any (w : World) (B b m1 m2 : Nat) (N : Int → Nat) (L : Int → Option Nat) (n : Nat) (h : Tb w B b m1 m2 N L n) (s : Int) (hi : I64 s) (hn : n + 1 ≤ 1000000) :
    Calls Tryd.prog 33 #[.pointer (some ⟨b, 0, none⟩), .int .i64 s] w fun e w' => e = .returned (.tuple #[.agg #[.int .i64 (mkS L s), .int .u64 (mkG N L s)], .int .i64 (mkE L s)]) ∧ Tb w' B b m1 m2 (mkN N L s) (mkL N L s) (n + 1) ∧ Fh B m1 m2 w w' := by
  by_cases h0 : s < 0
  · have e : mkE L s = 2 := by simp [mkE, h0]
    refine (make_arg w B b m1 m2 N L n h s h0).mono fun e' w' ⟨h1, h2⟩ => ?_
    simp only [mkS, mkG, mkN, mkL, e]
    exact ⟨h1, (h.below h2).mono (by omega) hn, Fh.of h2 h.size⟩
  · cases hL : L s with
    | some g =>
      have e : mkE L s = 7 := by simp [mkE, h0, hL]
      refine (make_there w B b m1 m2 N L n h s (by omega) g hL).mono fun e' w' ⟨h1, h2⟩ => ?_
      simp only [mkS, mkG, mkN, mkL, e]
      exact ⟨h1, (h.below h2).mono (by omega) hn, Fh.of h2 h.size⟩
    | none =>
      have e : mkE L s = 0 := by simp [mkE, h0, hL]
      refine (make_ok w B b m1 m2 N L n h s (by omega) hi hL hn).mono fun e' w' ⟨h1, h2, h3⟩ => ?_
      simp only [mkS, mkG, mkN, mkL, e, if_true]
      exact ⟨h1, h2, h3⟩
def drE (L : Int → Option Nat) (s : Int) (g : Nat) : Int := if (L s == some g) = true then 0 else 130
def drL (L : Int → Option Nat) (s : Int) (g : Nat) : Int → Option Nat := if (L s == some g) = true then updL L s none else L
theorem drop_any (w : World) (B b m1 m2 : Nat) (N : Int → Nat) (L : Int → Option Nat) (n : Nat) (h : Tb w B b m1 m2 N L n) (s : Int) (g : Nat) :
    Calls Tryd.prog 50 #[.pointer (some ⟨b, 0, none⟩), .agg #[.int .i64 s, .int .u64 g]] w fun e w' => e = .returned (.int .i64 (drE L s g)) ∧ Tb w' B b m1 m2 N (drL L s g) n ∧ Fh B m1 m2 w w' := by
  cases hL : L s == some g with
  | true =>
    refine (drop_ok w B b m1 m2 N L n h s g (by simpa using hL)).mono fun e' w' ⟨h1, h2, h3⟩ => ?_
    simp only [drE, drL, hL, if_true]
    exact ⟨h1, h2, h3⟩
  | false =>
    refine (drop_stale w B b m1 m2 N L n h s g hL).mono fun e' w' ⟨h1, h2⟩ => ?_
    simp only [drE, drL, hL]
    exact ⟨h1, h.below h2, Fh.of h2 h.size⟩
theorem mkE_same {L L' : Int → Option Nat} {s : Int} (h : L' s = L s) : mkE L' s = mkE L s := by simp [mkE, h]
theorem mk_same {N N' : Int → Nat} {L L' : Int → Option Nat} {s : Int} (h : L' s = L s) (h2 : N' s = N s) : mkS L' s = mkS L s ∧ mkG N' L' s = mkG N L s ∧ mkE L' s = mkE L s := by
  simp [mkS, mkG, mkE_same h, h2]
theorem mkN_at {N N' : Int → Nat} {L L' : Int → Option Nat} {s k : Int} (h : L' s = L s) (h2 : N' s = N s) (hk : N k = N' k) : mkN N L s k = mkN N' L' s k := by
  simp only [mkN, mkE_same h, h2]
  split
  · simp only [updN]; split <;> simp_all
  · exact hk
theorem mkL_at {N N' : Int → Nat} {L L' : Int → Option Nat} {s k : Int} (h : L' s = L s) (h2 : N' s = N s) (hk : L k = L' k) : mkL N L s k = mkL N' L' s k := by
  simp only [mkL, mkE_same h, h2]
  split
  · simp only [updL]; split <;> simp_all
  · exact hk
theorem drL_at {L L' : Int → Option Nat} {s k : Int} {g : Nat} (h : L' s = L s) (hk : L k = L' k) : drL L s g k = drL L' s g k := by
  simp only [drL, h]
  split
  · simp only [updL]; split <;> simp_all
  · exact hk
theorem drL_none {L : Int → Option Nat} {s k : Int} {g : Nat} (h : L k = none) : drL L s g k = none := by
  simp only [drL]
  split
  · simp only [updL]
    split
    · rfl
    · exact h
  · exact h
theorem mkL_other {N : Int → Nat} {L : Int → Option Nat} {s k : Int} (h : k ≠ s) : mkL N L s k = L k := by
  simp only [mkL]
  split
  · simp only [updL]; rw [if_neg h]
  · rfl
theorem cell_dr {w : World} {p : Addr} {v : Value} (h : w.cell? p = some v) : w.drew.cell? p = some v := h
def valOf : Value → Int
  | .int _ a => a
  | _ => 0
/-- Two tables that know the same of all slots but one. -/
structure Ap (w : World) (B ba ma mc bb mb md : Nat) (o : Int) (n : Nat) : Prop where
  ex : ∃ Na La Nb Lb, Tb w B ba ma mc Na La n ∧ Tb w B bb mb md Nb Lb n ∧ (∀ k, k ≠ o → Na k = Nb k ∧ La k = Lb k) ∧ Lb o = none
theorem Ap.below {w w' : World} {B ba ma mc bb mb md : Nat} {o : Int} {n n' : Nat} (h : Ap w B ba ma mc bb mb md o n) (hb : Below w.heap.size w w') (hn : n ≤ n') (hm : n' ≤ 1000000) : Ap w' B ba ma mc bb mb md o n' := by
  obtain ⟨Na, La, Nb, Lb, h1, h2, h3, h4⟩ := h.ex
  exact ⟨Na, La, Nb, Lb, (h1.below hb).mono hn hm, (h2.below hb).mono hn hm, h3, h4⟩
end Go.Proofs.YtooblonafnlfcaaDoor.H
