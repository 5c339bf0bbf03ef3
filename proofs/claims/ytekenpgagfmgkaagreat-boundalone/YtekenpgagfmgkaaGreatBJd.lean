/- Towards the statements of package bound (layer 5): three rounds, as the program does them: one step, by its number. -/
import Derived.Test.YtekenpgagfmgkaaGreatBJa
import Derived.Test.YtekenpgagfmgkaaGreatBJb
import Derived.Test.YtekenpgagfmgkaaGreatBJc
namespace Go.Proofs.YtekenpgagfmgkaaGreat
open Go.ChangeShapes Go.WideShapes Go.ChangeAt Go.RowKit
open Tn (iv)
set_option linter.unusedVariables false
set_option maxRecDepth 20000

theorem stN_0 : stN 0 = st1 := by simp only [stN]
theorem stN_1 : stN 1 = st2 := by simp only [stN]
theorem stN_2 : stN 2 = st3 := by simp only [stN]
theorem stN_3 : stN 3 = st4 := by simp only [stN]
theorem stN_4 : stN 4 = st5 := by simp only [stN]
theorem stN_5 : stN 5 = st6 := by simp only [stN]
theorem stN_6 : stN 6 = st7 := by simp only [stN]
theorem stN_7 : stN 7 = st8 := by simp only [stN]
theorem stN_8 : stN 8 = st9 := by simp only [stN]
theorem stN_9 : stN 9 = st10 := by simp only [stN]
theorem stN_10 : stN 10 = st11 := by simp only [stN]
theorem reg9_any (j : Nat) (hj : j < 11) (fv : Value) (hfv : fv = .func (.func (fnN j)) #[] #[]) (p : Nat) (d : Bd) (g : Good d) (w : World) (hp : AtA w p (cB d) 30) (Qp : Exit → Act → World → Prop) (c0 c2 c3 c4 c6 c7 c8 c9 c10 c11 c12 c13 c14 c15 c16 c17 c18 c19 c20 c21 c22 c23 c24 c25 c26 c27 c28 c29 c30 c31 c32 c33 c34 c35 c36 c37 c38 c39 c40 c41 c42 c43 c44 : Value) (hN : stN j d = none → ∀ w', GrX p w w' → Qp .normal ⟨#[c0, .pointer (some ⟨p, 0, none⟩), c2, c3, c4, fv, c6, c7, c8, c9, c10, c11, c12, c13, c14, c15, c16, c17, c18, c19, c20, c21, c22, c23, c24, c25, c26, c27, c28, c29, c30, c31, c32, c33, c34, c35, c36, c37, fv, .bool false, .bool true, c41, c42, c43, c44], []⟩ w') (hY : ∀ d2, stN j d = some d2 → ∀ w', AtA w' p (cB d2) 30 → GrX p w w' → Qp .normal ⟨#[c0, .pointer (some ⟨p, 0, none⟩), c2, c3, c4, fv, c6, c7, c8, c9, c10, c11, c12, c13, c14, c15, c16, c17, c18, c19, c20, c21, c22, c23, c24, c25, c26, c27, c28, c29, c30, c31, c32, c33, c34, c35, c36, c37, fv, .bool true, .bool false, c41, c42, c43, c44], []⟩ w') : Code.wp Tryz.prog (regS 9) Qp ⟨#[c0, .pointer (some ⟨p, 0, none⟩), c2, c3, c4, fv, c6, c7, c8, c9, c10, c11, c12, c13, c14, c15, c16, c17, c18, c19, c20, c21, c22, c23, c24, c25, c26, c27, c28, c29, c30, c31, c32, c33, c34, c35, c36, c37, c38, c39, c40, c41, c42, c43, c44], []⟩ w := by
  rcases (by omega : j = 0 ∨ j = 1 ∨ j = 2 ∨ j = 3 ∨ j = 4 ∨ j = 5 ∨ j = 6 ∨ j = 7 ∨ j = 8 ∨ j = 9 ∨ j = 10) with rfl | rfl | rfl | rfl | rfl | rfl | rfl | rfl | rfl | rfl | rfl
  · replace hfv : fv = .func (.func 79) #[] #[] := hfv
    subst hfv
    rw [stN_0] at hN hY
    exact reg9_0 p d g w hp Qp c0 c2 c3 c4 c6 c7 c8 c9 c10 c11 c12 c13 c14 c15 c16 c17 c18 c19 c20 c21 c22 c23 c24 c25 c26 c27 c28 c29 c30 c31 c32 c33 c34 c35 c36 c37 c38 c39 c40 c41 c42 c43 c44 hN hY
  · replace hfv : fv = .func (.func 82) #[] #[] := hfv
    subst hfv
    rw [stN_1] at hN hY
    exact reg9_1 p d g w hp Qp c0 c2 c3 c4 c6 c7 c8 c9 c10 c11 c12 c13 c14 c15 c16 c17 c18 c19 c20 c21 c22 c23 c24 c25 c26 c27 c28 c29 c30 c31 c32 c33 c34 c35 c36 c37 c38 c39 c40 c41 c42 c43 c44 hN hY
  · replace hfv : fv = .func (.func 85) #[] #[] := hfv
    subst hfv
    rw [stN_2] at hN hY
    exact reg9_2 p d g w hp Qp c0 c2 c3 c4 c6 c7 c8 c9 c10 c11 c12 c13 c14 c15 c16 c17 c18 c19 c20 c21 c22 c23 c24 c25 c26 c27 c28 c29 c30 c31 c32 c33 c34 c35 c36 c37 c38 c39 c40 c41 c42 c43 c44 hN hY
  · replace hfv : fv = .func (.func 87) #[] #[] := hfv
    subst hfv
    rw [stN_3] at hN hY
    exact reg9_3 p d g w hp Qp c0 c2 c3 c4 c6 c7 c8 c9 c10 c11 c12 c13 c14 c15 c16 c17 c18 c19 c20 c21 c22 c23 c24 c25 c26 c27 c28 c29 c30 c31 c32 c33 c34 c35 c36 c37 c38 c39 c40 c41 c42 c43 c44 hN hY
  · replace hfv : fv = .func (.func 89) #[] #[] := hfv
    subst hfv
    rw [stN_4] at hN hY
    exact reg9_4 p d g w hp Qp c0 c2 c3 c4 c6 c7 c8 c9 c10 c11 c12 c13 c14 c15 c16 c17 c18 c19 c20 c21 c22 c23 c24 c25 c26 c27 c28 c29 c30 c31 c32 c33 c34 c35 c36 c37 c38 c39 c40 c41 c42 c43 c44 hN hY
  · replace hfv : fv = .func (.func 92) #[] #[] := hfv
    subst hfv
    rw [stN_5] at hN hY
    exact reg9_5 p d g w hp Qp c0 c2 c3 c4 c6 c7 c8 c9 c10 c11 c12 c13 c14 c15 c16 c17 c18 c19 c20 c21 c22 c23 c24 c25 c26 c27 c28 c29 c30 c31 c32 c33 c34 c35 c36 c37 c38 c39 c40 c41 c42 c43 c44 hN hY
  · replace hfv : fv = .func (.func 93) #[] #[] := hfv
    subst hfv
    rw [stN_6] at hN hY
    exact reg9_6 p d g w hp Qp c0 c2 c3 c4 c6 c7 c8 c9 c10 c11 c12 c13 c14 c15 c16 c17 c18 c19 c20 c21 c22 c23 c24 c25 c26 c27 c28 c29 c30 c31 c32 c33 c34 c35 c36 c37 c38 c39 c40 c41 c42 c43 c44 hN hY
  · replace hfv : fv = .func (.func 94) #[] #[] := hfv
    subst hfv
    rw [stN_7] at hN hY
    exact reg9_7 p d g w hp Qp c0 c2 c3 c4 c6 c7 c8 c9 c10 c11 c12 c13 c14 c15 c16 c17 c18 c19 c20 c21 c22 c23 c24 c25 c26 c27 c28 c29 c30 c31 c32 c33 c34 c35 c36 c37 c38 c39 c40 c41 c42 c43 c44 hN hY
  · replace hfv : fv = .func (.func 96) #[] #[] := hfv
    subst hfv
    rw [stN_8] at hN hY
    exact reg9_8 p d g w hp Qp c0 c2 c3 c4 c6 c7 c8 c9 c10 c11 c12 c13 c14 c15 c16 c17 c18 c19 c20 c21 c22 c23 c24 c25 c26 c27 c28 c29 c30 c31 c32 c33 c34 c35 c36 c37 c38 c39 c40 c41 c42 c43 c44 hN hY
  · replace hfv : fv = .func (.func 98) #[] #[] := hfv
    subst hfv
    rw [stN_9] at hN hY
    exact reg9_9 p d g w hp Qp c0 c2 c3 c4 c6 c7 c8 c9 c10 c11 c12 c13 c14 c15 c16 c17 c18 c19 c20 c21 c22 c23 c24 c25 c26 c27 c28 c29 c30 c31 c32 c33 c34 c35 c36 c37 c38 c39 c40 c41 c42 c43 c44 hN hY
  · replace hfv : fv = .func (.func 100) #[] #[] := hfv
    subst hfv
    rw [stN_10] at hN hY
    exact reg9_10 p d g w hp Qp c0 c2 c3 c4 c6 c7 c8 c9 c10 c11 c12 c13 c14 c15 c16 c17 c18 c19 c20 c21 c22 c23 c24 c25 c26 c27 c28 c29 c30 c31 c32 c33 c34 c35 c36 c37 c38 c39 c40 c41 c42 c43 c44 hN hY
end Go.Proofs.YtekenpgagfmgkaaGreat
