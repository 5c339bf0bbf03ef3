/- The order of texts, as mathematics: bytes and runes tell the same. -/
import Derived.Test.YtkndkniimlckeaaNN
import Derived.Lib.Bytealg
namespace Go.Proofs.Ytkndkniimlckeaa
set_option linter.unusedVariables false
set_option linter.unusedSimpArgs false
/-- -1, 0, 1, as one list of numbers comes ahead of another one. -/
def cmpN : List Nat → List Nat → Int
  | [], [] => 0
  | [], _ :: _ => -1
  | _ :: _, [] => 1
  | a :: s, b :: t => if a < b then -1 else if b < a then 1 else cmpN s t
theorem cmpN_three (s t : List Nat) : cmpN s t = -1 ∨ cmpN s t = 0 ∨ cmpN s t = 1 := by
  induction s generalizing t with
  | nil => cases t <;> simp [cmpN]
  | cons a s ih =>
    cases t with
    | nil => simp [cmpN]
    | cons b t => rw [cmpN]; split; · simp
                  split; · simp
                  exact ih t
theorem cmpN_neg (s t : List Nat) : cmpN t s = - cmpN s t := by
  induction s generalizing t with
  | nil => cases t <;> simp [cmpN]
  | cons a s ih =>
    cases t with
    | nil => simp [cmpN]
    | cons b t =>
      rw [cmpN, cmpN]
      by_cases h1 : a < b
      · rw [if_pos h1, if_neg (by omega), if_pos h1]; rfl
      · by_cases h2 : b < a
        · rw [if_pos h2, if_neg h1, if_pos h2]
        · rw [if_neg h1, if_neg h2, if_neg h1, if_neg h2, ih]
theorem cmpN_zero (s t : List Nat) : cmpN s t = 0 ↔ s = t := by
  induction s generalizing t with
  | nil => cases t <;> simp [cmpN]
  | cons a s ih =>
    cases t with
    | nil => simp [cmpN]
    | cons b t =>
      rw [cmpN]
      by_cases h1 : a < b
      · rw [if_pos h1]; simp; omega
      · by_cases h2 : b < a
        · rw [if_neg h1, if_pos h2]; simp; omega
        · rw [if_neg h1, if_neg h2, ih]
          have : a = b := by omega
          simp [this]
theorem cmpN_trans (s t u : List Nat) (h1 : cmpN s t ≤ 0) (h2 : cmpN t u ≤ 0) : cmpN s u ≤ 0 := by
  induction s generalizing t u with
  | nil => cases u <;> simp [cmpN]
  | cons a s ih =>
    cases t with
    | nil => simp [cmpN] at h1
    | cons b t =>
      cases u with
      | nil => simp [cmpN] at h2
      | cons c u =>
        rw [cmpN] at *
        by_cases g1 : a < b
        · by_cases g2 : b < c
          · rw [if_pos (by omega)]; decide
          · by_cases g3 : c < b
            · rw [if_neg g2, if_pos g3] at h2; exact absurd h2 (by decide)
            · rw [if_pos (by omega)]; decide
        · by_cases g2 : b < a
          · rw [if_neg g1, if_pos g2] at h1; exact absurd h1 (by decide)
          · rw [if_neg g1, if_neg g2] at h1
            by_cases g3 : b < c
            · rw [if_pos (by omega)]; decide
            · by_cases g4 : c < b
              · rw [if_neg g3, if_pos g4] at h2; exact absurd h2 (by decide)
              · rw [if_neg g3, if_neg g4] at h2
                rw [if_neg (by omega), if_neg (by omega)]
                exact ih t u h1 h2
theorem cmpN_app (p s t : List Nat) : cmpN (p ++ s) (p ++ t) = cmpN s t := by
  induction p with
  | nil => rfl
  | cons a p ih => rw [List.cons_append, List.cons_append, cmpN, if_neg (by omega), if_neg (by omega), ih]
theorem cmpN_pre (s t : List Nat) (h : t ≠ []) : cmpN s (s ++ t) = -1 := by
  have := cmpN_app s [] t
  rw [List.append_nil] at this
  rw [this]
  cases t with
  | nil => exact absurd rfl h
  | cons a t => rfl
theorem cmpB_eq (a b : List UInt8) : Lib.compareBytes a b = cmpN (a.map UInt8.toNat) (b.map UInt8.toNat) := by
  induction a generalizing b with
  | nil => cases b <;> rfl
  | cons x a ih =>
    cases b with
    | nil => rfl
    | cons y b =>
      rw [Lib.compareBytes, List.map_cons, List.map_cons, cmpN, ← ih]
      rfl
/-- A rune that is less has bytes that come ahead. -/
theorem rune_lt {p q : List Nat} {r r' : Nat} (h : Rune p r p.length) (h' : Rune q r' q.length) (hlt : r < r') (s t : List Nat) : cmpN (p ++ s) (q ++ t) = -1 := by
  generalize hw : p.length = w at h
  generalize hw' : q.length = w' at h'
  cases h with
  | one a t1 h1 =>
    cases h' with
    | one a' t2 h1' => simp only [List.cons_append, cmpN]; rw [if_pos (by omega)]
    | two a' b' t2 h1' h2' h3' h4' => simp only [List.cons_append, cmpN]; rw [if_pos (by omega)]
    | three a' b' c' t2 h1' h2' h3' h4' h5' h6' h7' h8' => simp only [List.cons_append, cmpN]; rw [if_pos (by omega)]
    | four a' b' c' d' t2 h1' h2' h3' h4' h5' h6' h7' h8' h9' h10' => simp only [List.cons_append, cmpN]; rw [if_pos (by omega)]
  | two a b t1 h1 h2 h3 h4 =>
    cases h' with
    | one a' t2 h1' => omega
    | two a' b' t2 h1' h2' h3' h4' =>
      simp only [List.cons_append, cmpN]
      by_cases g : a < a'
      · rw [if_pos g]
      · rw [if_neg g, if_neg (by omega), if_pos (by omega)]
    | three a' b' c' t2 h1' h2' h3' h4' h5' h6' h7' h8' => simp only [List.cons_append, cmpN]; rw [if_pos (by omega)]
    | four a' b' c' d' t2 h1' h2' h3' h4' h5' h6' h7' h8' h9' h10' => simp only [List.cons_append, cmpN]; rw [if_pos (by omega)]
  | three a b c t1 h1 h2 h3 h4 h5 h6 h7 h8 =>
    cases h' with
    | one a' t2 h1' => omega
    | two a' b' t2 h1' h2' h3' h4' => omega
    | three a' b' c' t2 h1' h2' h3' h4' h5' h6' h7' h8' =>
      simp only [List.cons_append, cmpN]
      by_cases g : a < a'
      · rw [if_pos g]
      · rw [if_neg g, if_neg (by omega)]
        by_cases g2 : b < b'
        · rw [if_pos g2]
        · rw [if_neg g2, if_neg (by omega), if_pos (by omega)]
    | four a' b' c' d' t2 h1' h2' h3' h4' h5' h6' h7' h8' h9' h10' => simp only [List.cons_append, cmpN]; rw [if_pos (by omega)]
  | four a b c d t1 h1 h2 h3 h4 h5 h6 h7 h8 h9 h10 =>
    cases h' with
    | one a' t2 h1' => omega
    | two a' b' t2 h1' h2' h3' h4' => omega
    | three a' b' c' t2 h1' h2' h3' h4' h5' h6' h7' h8' => omega
    | four a' b' c' d' t2 h1' h2' h3' h4' h5' h6' h7' h8' h9' h10' =>
      simp only [List.cons_append, cmpN]
      by_cases g : a < a'
      · rw [if_pos g]
      · rw [if_neg g, if_neg (by omega)]
        by_cases g2 : b < b'
        · rw [if_pos g2]
        · rw [if_neg g2, if_neg (by omega)]
          by_cases g3 : c < c'
          · rw [if_pos g3]
          · rw [if_neg g3, if_neg (by omega), if_pos (by omega)]
theorem txt_cmp {a b : List Nat} {C D} (h : Txt a C) (h' : Txt b D) : cmpN a b = cmpN (C.map (·.1)) (D.map (·.1)) := by
  induction h generalizing b D with
  | nil =>
    cases h' with
    | nil => rfl
    | cons p l r D hr hD =>
      have := hr.ne
      cases p with
      | nil => exact absurd rfl this
      | cons x p => rfl
  | cons p l r C hr hC ih =>
    cases h' with
    | nil =>
      have := hr.ne
      cases p with
      | nil => exact absurd rfl this
      | cons x p => rfl
    | cons q m r' D hr' hD =>
      rw [List.map_cons, List.map_cons, cmpN]
      by_cases h1 : r < r'
      · rw [if_pos h1, rune_lt hr hr' h1]
      · by_cases h2 : r' < r
        · rw [if_neg h1, if_pos h2, cmpN_neg, rune_lt hr' hr h2]; rfl
        · rw [if_neg h1, if_neg h2]
          have hpq : p = q := by
            have hz : ∀ (p q : List Nat), Rune p r p.length → Rune q r' q.length → r = r' → p = q := by
              intro p q h h' e
              generalize hw : p.length = w at h
              generalize hw' : q.length = w' at h'
              cases h <;> cases h' <;> simp at hw hw' <;> simp [hw, hw'] <;> omega
            exact hz p q hr hr' (by omega)
          subst hpq
          rw [cmpN_app, ih hD]
/-- What Compare tells. -/
def cmpM (a b : List Nat) : Int := if (ch a).isSome = (ch b).isSome then cmpN a b else if (ch a).isSome then -1 else 1
end Go.Proofs.Ytkndkniimlckeaa
