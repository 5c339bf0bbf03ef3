/- Towards the statements of package bound (layer 5): three rounds, as the program does them: one step, by its number. -/
import Derived.Test.YtekenpgagfmgkaaGreatBJ
namespace Go.Proofs.YtekenpgagfmgkaaGreat
open Go.ChangeShapes Go.WideShapes Go.ChangeAt Go.RowKit
open Tn (iv)
set_option linter.unusedVariables false
set_option maxRecDepth 20000

set_option maxHeartbeats 1000000 in
theorem reg9_0 (p : Nat) (d : Bd) (g : Good d) (w : World) (hp : AtA w p (cB d) 30) (Qp : Exit → Act → World → Prop) (c0 c2 c3 c4 c6 c7 c8 c9 c10 c11 c12 c13 c14 c15 c16 c17 c18 c19 c20 c21 c22 c23 c24 c25 c26 c27 c28 c29 c30 c31 c32 c33 c34 c35 c36 c37 c38 c39 c40 c41 c42 c43 c44 : Value) (hN : st1 d = none → ∀ w', GrX p w w' → Qp .normal ⟨#[c0, .pointer (some ⟨p, 0, none⟩), c2, c3, c4, .func (.func 79) #[] #[], c6, c7, c8, c9, c10, c11, c12, c13, c14, c15, c16, c17, c18, c19, c20, c21, c22, c23, c24, c25, c26, c27, c28, c29, c30, c31, c32, c33, c34, c35, c36, c37, .func (.func 79) #[] #[], .bool false, .bool true, c41, c42, c43, c44], []⟩ w') (hY : ∀ d2, st1 d = some d2 → ∀ w', AtA w' p (cB d2) 30 → GrX p w w' → Qp .normal ⟨#[c0, .pointer (some ⟨p, 0, none⟩), c2, c3, c4, .func (.func 79) #[] #[], c6, c7, c8, c9, c10, c11, c12, c13, c14, c15, c16, c17, c18, c19, c20, c21, c22, c23, c24, c25, c26, c27, c28, c29, c30, c31, c32, c33, c34, c35, c36, c37, .func (.func 79) #[] #[], .bool true, .bool false, c41, c42, c43, c44], []⟩ w') : Code.wp Tryz.prog (regS 9) Qp ⟨#[c0, .pointer (some ⟨p, 0, none⟩), c2, c3, c4, .func (.func 79) #[] #[], c6, c7, c8, c9, c10, c11, c12, c13, c14, c15, c16, c17, c18, c19, c20, c21, c22, c23, c24, c25, c26, c27, c28, c29, c30, c31, c32, c33, c34, c35, c36, c37, c38, c39, c40, c41, c42, c43, c44], []⟩ w := by
  have HN : Hid (_ → ∀ w', GrX p w w' → _) := hN
  have HY : Hid (∀ d2, _ → ∀ w', AtA w' p (cB d2) 30 → GrX p w w' → _) := hY
  have HP : Hid (AtA w p (cB d) 30) := hp
  clear hN hY hp
  conv => arg 2; whnf
  rcases hs : st1 d with _ | d2
  · have HS : Hid (st1 d = none) := hs
    clear hs
    go_wp2_with (first
      | (go_at_call 79; refine (sp1_no p d g HS.out _ HP.out).mono ?_; rintro e w1 ⟨rfl, _, hX⟩; have HX : Hid (GrX p w w1) := hX; clear hX))
    exact HN.out HS.out _ HX.out
  · have HS : Hid (st1 d = some d2) := hs
    clear hs
    go_wp2_with (first
      | (go_at_call 79; refine (sp1_yes p d d2 g HS.out _ HP.out).mono ?_; rintro e w1 ⟨rfl, hA, hX⟩; have HX : Hid (AtA w1 p (cB d2) 30 ∧ GrX p w w1) := ⟨hA, hX⟩; clear hX hA))
    exact HY.out d2 HS.out _ HX.out.1 HX.out.2
set_option maxHeartbeats 1000000 in
theorem reg9_1 (p : Nat) (d : Bd) (g : Good d) (w : World) (hp : AtA w p (cB d) 30) (Qp : Exit → Act → World → Prop) (c0 c2 c3 c4 c6 c7 c8 c9 c10 c11 c12 c13 c14 c15 c16 c17 c18 c19 c20 c21 c22 c23 c24 c25 c26 c27 c28 c29 c30 c31 c32 c33 c34 c35 c36 c37 c38 c39 c40 c41 c42 c43 c44 : Value) (hN : st2 d = none → ∀ w', GrX p w w' → Qp .normal ⟨#[c0, .pointer (some ⟨p, 0, none⟩), c2, c3, c4, .func (.func 82) #[] #[], c6, c7, c8, c9, c10, c11, c12, c13, c14, c15, c16, c17, c18, c19, c20, c21, c22, c23, c24, c25, c26, c27, c28, c29, c30, c31, c32, c33, c34, c35, c36, c37, .func (.func 82) #[] #[], .bool false, .bool true, c41, c42, c43, c44], []⟩ w') (hY : ∀ d2, st2 d = some d2 → ∀ w', AtA w' p (cB d2) 30 → GrX p w w' → Qp .normal ⟨#[c0, .pointer (some ⟨p, 0, none⟩), c2, c3, c4, .func (.func 82) #[] #[], c6, c7, c8, c9, c10, c11, c12, c13, c14, c15, c16, c17, c18, c19, c20, c21, c22, c23, c24, c25, c26, c27, c28, c29, c30, c31, c32, c33, c34, c35, c36, c37, .func (.func 82) #[] #[], .bool true, .bool false, c41, c42, c43, c44], []⟩ w') : Code.wp Tryz.prog (regS 9) Qp ⟨#[c0, .pointer (some ⟨p, 0, none⟩), c2, c3, c4, .func (.func 82) #[] #[], c6, c7, c8, c9, c10, c11, c12, c13, c14, c15, c16, c17, c18, c19, c20, c21, c22, c23, c24, c25, c26, c27, c28, c29, c30, c31, c32, c33, c34, c35, c36, c37, c38, c39, c40, c41, c42, c43, c44], []⟩ w := by
  have HN : Hid (_ → ∀ w', GrX p w w' → _) := hN
  have HY : Hid (∀ d2, _ → ∀ w', AtA w' p (cB d2) 30 → GrX p w w' → _) := hY
  have HP : Hid (AtA w p (cB d) 30) := hp
  clear hN hY hp
  conv => arg 2; whnf
  rcases hs : st2 d with _ | d2
  · have HS : Hid (st2 d = none) := hs
    clear hs
    go_wp2_with (first
      | (go_at_call 82; refine (sp2_no p d g HS.out _ HP.out).mono ?_; rintro e w1 ⟨rfl, _, hX⟩; have HX : Hid (GrX p w w1) := hX; clear hX))
    exact HN.out HS.out _ HX.out
  · have HS : Hid (st2 d = some d2) := hs
    clear hs
    go_wp2_with (first
      | (go_at_call 82; refine (sp2_yes p d d2 g HS.out _ HP.out).mono ?_; rintro e w1 ⟨rfl, hA, hX⟩; have HX : Hid (AtA w1 p (cB d2) 30 ∧ GrX p w w1) := ⟨hA, hX⟩; clear hX hA))
    exact HY.out d2 HS.out _ HX.out.1 HX.out.2
set_option maxHeartbeats 1000000 in
theorem reg9_2 (p : Nat) (d : Bd) (g : Good d) (w : World) (hp : AtA w p (cB d) 30) (Qp : Exit → Act → World → Prop) (c0 c2 c3 c4 c6 c7 c8 c9 c10 c11 c12 c13 c14 c15 c16 c17 c18 c19 c20 c21 c22 c23 c24 c25 c26 c27 c28 c29 c30 c31 c32 c33 c34 c35 c36 c37 c38 c39 c40 c41 c42 c43 c44 : Value) (hN : st3 d = none → ∀ w', GrX p w w' → Qp .normal ⟨#[c0, .pointer (some ⟨p, 0, none⟩), c2, c3, c4, .func (.func 85) #[] #[], c6, c7, c8, c9, c10, c11, c12, c13, c14, c15, c16, c17, c18, c19, c20, c21, c22, c23, c24, c25, c26, c27, c28, c29, c30, c31, c32, c33, c34, c35, c36, c37, .func (.func 85) #[] #[], .bool false, .bool true, c41, c42, c43, c44], []⟩ w') (hY : ∀ d2, st3 d = some d2 → ∀ w', AtA w' p (cB d2) 30 → GrX p w w' → Qp .normal ⟨#[c0, .pointer (some ⟨p, 0, none⟩), c2, c3, c4, .func (.func 85) #[] #[], c6, c7, c8, c9, c10, c11, c12, c13, c14, c15, c16, c17, c18, c19, c20, c21, c22, c23, c24, c25, c26, c27, c28, c29, c30, c31, c32, c33, c34, c35, c36, c37, .func (.func 85) #[] #[], .bool true, .bool false, c41, c42, c43, c44], []⟩ w') : Code.wp Tryz.prog (regS 9) Qp ⟨#[c0, .pointer (some ⟨p, 0, none⟩), c2, c3, c4, .func (.func 85) #[] #[], c6, c7, c8, c9, c10, c11, c12, c13, c14, c15, c16, c17, c18, c19, c20, c21, c22, c23, c24, c25, c26, c27, c28, c29, c30, c31, c32, c33, c34, c35, c36, c37, c38, c39, c40, c41, c42, c43, c44], []⟩ w := by
  have HN : Hid (_ → ∀ w', GrX p w w' → _) := hN
  have HY : Hid (∀ d2, _ → ∀ w', AtA w' p (cB d2) 30 → GrX p w w' → _) := hY
  have HP : Hid (AtA w p (cB d) 30) := hp
  clear hN hY hp
  conv => arg 2; whnf
  rcases hs : st3 d with _ | d2
  · have HS : Hid (st3 d = none) := hs
    clear hs
    go_wp2_with (first
      | (go_at_call 85; refine (sp3_no p d g HS.out _ HP.out).mono ?_; rintro e w1 ⟨rfl, _, hX⟩; have HX : Hid (GrX p w w1) := hX; clear hX))
    exact HN.out HS.out _ HX.out
  · have HS : Hid (st3 d = some d2) := hs
    clear hs
    go_wp2_with (first
      | (go_at_call 85; refine (sp3_yes p d d2 g HS.out _ HP.out).mono ?_; rintro e w1 ⟨rfl, hA, hX⟩; have HX : Hid (AtA w1 p (cB d2) 30 ∧ GrX p w w1) := ⟨hA, hX⟩; clear hX hA))
    exact HY.out d2 HS.out _ HX.out.1 HX.out.2
end Go.Proofs.YtekenpgagfmgkaaGreat
