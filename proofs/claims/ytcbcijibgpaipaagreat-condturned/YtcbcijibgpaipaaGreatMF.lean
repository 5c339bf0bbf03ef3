/- Towards the statements of package bound (layer 5): three rounds, as the program does them: one step, by its number. Towards the statements of package bound (layer 5): three rounds, as the program does them: one step, by its number. Towards the statements of package bound (layer 5): three rounds, as the program does them: one step, by its number. Towards the statements of package bound (layer 5): three rounds, as the program does them: one step, by its number. Towards the statements of package bound (layer 5): three rounds, as the program does them: one step, by its number. -/
import Derived.Test.YtcbcijibgpaipaaGreatBH
section
namespace Go.Proofs.YtcbcijibgpaipaaGreat
open Go.ChangeShapes Go.WideShapes Go.ChangeAt Go.RowKit
open Tn (iv)
set_option linter.unusedVariables false
set_option maxRecDepth 20000

/-- A statement of a function, by its number. -/
def regOf (n : Nat) : Code → Option Code
  | .region id ops b => bif Nat.beq id n then some (.region id ops b) else none
  | .seq a b => match regOf n a with
    | some c => some c
    | none => regOf n b
  | .loop c => regOf n c
  | .block _ c => regOf n c
  | .scope c => regOf n c
  | .cond _ a b => match regOf n a with
    | some c => some c
    | none => regOf n b
  | _ => none
noncomputable def regS (n : Nat) : Code := (Tryz.f11.body.bind (regOf n)).getD .skip
def fnN (n : Nat) : Nat := match n with
  | 0 => 92
  | 1 => 95
  | 2 => 98
  | 3 => 100
  | 4 => 102
  | 5 => 105
  | 6 => 106
  | 7 => 107
  | 8 => 109
  | 9 => 111
  | _ => 113
theorem fn_at (j : Nat) (hj : j < 11) : (#[.func (.func 92) #[] #[], .func (.func 95) #[] #[], .func (.func 98) #[] #[], .func (.func 100) #[] #[], .func (.func 102) #[] #[], .func (.func 105) #[] #[], .func (.func 106) #[] #[], .func (.func 107) #[] #[], .func (.func 109) #[] #[], .func (.func 111) #[] #[], .func (.func 113) #[] #[]] : Array Value)[j]? = some (.func (.func (fnN j)) #[] #[]) := by
  rcases (by omega : j = 0 ∨ j = 1 ∨ j = 2 ∨ j = 3 ∨ j = 4 ∨ j = 5 ∨ j = 6 ∨ j = 7 ∨ j = 8 ∨ j = 9 ∨ j = 10) with rfl | rfl | rfl | rfl | rfl | rfl | rfl | rfl | rfl | rfl | rfl <;> rfl
end Go.Proofs.YtcbcijibgpaipaaGreat
end
section
namespace Go.Proofs.YtcbcijibgpaipaaGreat
open Go.ChangeShapes Go.WideShapes Go.ChangeAt Go.RowKit
open Tn (iv)
set_option linter.unusedVariables false
set_option maxRecDepth 20000

set_option maxHeartbeats 1000000 in
theorem reg9_0 (p : Nat) (d : Bd) (g : Good d) (w : World) (hp : AtA w p (cB d) 30) (Qp : Exit → Act → World → Prop) (c0 c2 c3 c4 c6 c7 c8 c9 c10 c11 c12 c13 c14 c15 c16 c17 c18 c19 c20 c21 c22 c23 c24 c25 c26 c27 c28 c29 c30 c31 c32 c33 c34 c35 c36 c37 c38 c39 c40 c41 c42 c43 c44 : Value) (hN : st1 d = none → ∀ w', GrX p w w' → Qp .normal ⟨#[c0, .pointer (some ⟨p, 0, none⟩), c2, c3, c4, .func (.func 92) #[] #[], c6, c7, c8, c9, c10, c11, c12, c13, c14, c15, c16, c17, c18, c19, c20, c21, c22, c23, c24, c25, c26, c27, c28, c29, c30, c31, c32, c33, c34, c35, c36, c37, .func (.func 92) #[] #[], .bool false, .bool true, c41, c42, c43, c44], []⟩ w') (hY : ∀ d2, st1 d = some d2 → ∀ w', AtA w' p (cB d2) 30 → GrX p w w' → Qp .normal ⟨#[c0, .pointer (some ⟨p, 0, none⟩), c2, c3, c4, .func (.func 92) #[] #[], c6, c7, c8, c9, c10, c11, c12, c13, c14, c15, c16, c17, c18, c19, c20, c21, c22, c23, c24, c25, c26, c27, c28, c29, c30, c31, c32, c33, c34, c35, c36, c37, .func (.func 92) #[] #[], .bool true, .bool false, c41, c42, c43, c44], []⟩ w') : Code.wp Tryz.prog (regS 9) Qp ⟨#[c0, .pointer (some ⟨p, 0, none⟩), c2, c3, c4, .func (.func 92) #[] #[], c6, c7, c8, c9, c10, c11, c12, c13, c14, c15, c16, c17, c18, c19, c20, c21, c22, c23, c24, c25, c26, c27, c28, c29, c30, c31, c32, c33, c34, c35, c36, c37, c38, c39, c40, c41, c42, c43, c44], []⟩ w := by
  have HN : Hid (_ → ∀ w', GrX p w w' → _) := hN
  have HY : Hid (∀ d2, _ → ∀ w', AtA w' p (cB d2) 30 → GrX p w w' → _) := hY
  have HP : Hid (AtA w p (cB d) 30) := hp
  clear hN hY hp
  conv => arg 2; whnf
  rcases hs : st1 d with _ | d2
  · have HS : Hid (st1 d = none) := hs
    clear hs
    go_wp2_with (first
      | (go_at_call 92; refine (sp1_no p d g HS.out _ HP.out).mono ?_; rintro e w1 ⟨rfl, _, hX⟩; have HX : Hid (GrX p w w1) := hX; clear hX))
    exact HN.out HS.out _ HX.out
  · have HS : Hid (st1 d = some d2) := hs
    clear hs
    go_wp2_with (first
      | (go_at_call 92; refine (sp1_yes p d d2 g HS.out _ HP.out).mono ?_; rintro e w1 ⟨rfl, hA, hX⟩; have HX : Hid (AtA w1 p (cB d2) 30 ∧ GrX p w w1) := ⟨hA, hX⟩; clear hX hA))
    exact HY.out d2 HS.out _ HX.out.1 HX.out.2
set_option maxHeartbeats 1000000 in
theorem reg9_1 (p : Nat) (d : Bd) (g : Good d) (w : World) (hp : AtA w p (cB d) 30) (Qp : Exit → Act → World → Prop) (c0 c2 c3 c4 c6 c7 c8 c9 c10 c11 c12 c13 c14 c15 c16 c17 c18 c19 c20 c21 c22 c23 c24 c25 c26 c27 c28 c29 c30 c31 c32 c33 c34 c35 c36 c37 c38 c39 c40 c41 c42 c43 c44 : Value) (hN : st2 d = none → ∀ w', GrX p w w' → Qp .normal ⟨#[c0, .pointer (some ⟨p, 0, none⟩), c2, c3, c4, .func (.func 95) #[] #[], c6, c7, c8, c9, c10, c11, c12, c13, c14, c15, c16, c17, c18, c19, c20, c21, c22, c23, c24, c25, c26, c27, c28, c29, c30, c31, c32, c33, c34, c35, c36, c37, .func (.func 95) #[] #[], .bool false, .bool true, c41, c42, c43, c44], []⟩ w') (hY : ∀ d2, st2 d = some d2 → ∀ w', AtA w' p (cB d2) 30 → GrX p w w' → Qp .normal ⟨#[c0, .pointer (some ⟨p, 0, none⟩), c2, c3, c4, .func (.func 95) #[] #[], c6, c7, c8, c9, c10, c11, c12, c13, c14, c15, c16, c17, c18, c19, c20, c21, c22, c23, c24, c25, c26, c27, c28, c29, c30, c31, c32, c33, c34, c35, c36, c37, .func (.func 95) #[] #[], .bool true, .bool false, c41, c42, c43, c44], []⟩ w') : Code.wp Tryz.prog (regS 9) Qp ⟨#[c0, .pointer (some ⟨p, 0, none⟩), c2, c3, c4, .func (.func 95) #[] #[], c6, c7, c8, c9, c10, c11, c12, c13, c14, c15, c16, c17, c18, c19, c20, c21, c22, c23, c24, c25, c26, c27, c28, c29, c30, c31, c32, c33, c34, c35, c36, c37, c38, c39, c40, c41, c42, c43, c44], []⟩ w := by
  have HN : Hid (_ → ∀ w', GrX p w w' → _) := hN
  have HY : Hid (∀ d2, _ → ∀ w', AtA w' p (cB d2) 30 → GrX p w w' → _) := hY
  have HP : Hid (AtA w p (cB d) 30) := hp
  clear hN hY hp
  conv => arg 2; whnf
  rcases hs : st2 d with _ | d2
  · have HS : Hid (st2 d = none) := hs
    clear hs
    go_wp2_with (first
      | (go_at_call 95; refine (sp2_no p d g HS.out _ HP.out).mono ?_; rintro e w1 ⟨rfl, _, hX⟩; have HX : Hid (GrX p w w1) := hX; clear hX))
    exact HN.out HS.out _ HX.out
  · have HS : Hid (st2 d = some d2) := hs
    clear hs
    go_wp2_with (first
      | (go_at_call 95; refine (sp2_yes p d d2 g HS.out _ HP.out).mono ?_; rintro e w1 ⟨rfl, hA, hX⟩; have HX : Hid (AtA w1 p (cB d2) 30 ∧ GrX p w w1) := ⟨hA, hX⟩; clear hX hA))
    exact HY.out d2 HS.out _ HX.out.1 HX.out.2
set_option maxHeartbeats 1000000 in
theorem reg9_2 (p : Nat) (d : Bd) (g : Good d) (w : World) (hp : AtA w p (cB d) 30) (Qp : Exit → Act → World → Prop) (c0 c2 c3 c4 c6 c7 c8 c9 c10 c11 c12 c13 c14 c15 c16 c17 c18 c19 c20 c21 c22 c23 c24 c25 c26 c27 c28 c29 c30 c31 c32 c33 c34 c35 c36 c37 c38 c39 c40 c41 c42 c43 c44 : Value) (hN : st3 d = none → ∀ w', GrX p w w' → Qp .normal ⟨#[c0, .pointer (some ⟨p, 0, none⟩), c2, c3, c4, .func (.func 98) #[] #[], c6, c7, c8, c9, c10, c11, c12, c13, c14, c15, c16, c17, c18, c19, c20, c21, c22, c23, c24, c25, c26, c27, c28, c29, c30, c31, c32, c33, c34, c35, c36, c37, .func (.func 98) #[] #[], .bool false, .bool true, c41, c42, c43, c44], []⟩ w') (hY : ∀ d2, st3 d = some d2 → ∀ w', AtA w' p (cB d2) 30 → GrX p w w' → Qp .normal ⟨#[c0, .pointer (some ⟨p, 0, none⟩), c2, c3, c4, .func (.func 98) #[] #[], c6, c7, c8, c9, c10, c11, c12, c13, c14, c15, c16, c17, c18, c19, c20, c21, c22, c23, c24, c25, c26, c27, c28, c29, c30, c31, c32, c33, c34, c35, c36, c37, .func (.func 98) #[] #[], .bool true, .bool false, c41, c42, c43, c44], []⟩ w') : Code.wp Tryz.prog (regS 9) Qp ⟨#[c0, .pointer (some ⟨p, 0, none⟩), c2, c3, c4, .func (.func 98) #[] #[], c6, c7, c8, c9, c10, c11, c12, c13, c14, c15, c16, c17, c18, c19, c20, c21, c22, c23, c24, c25, c26, c27, c28, c29, c30, c31, c32, c33, c34, c35, c36, c37, c38, c39, c40, c41, c42, c43, c44], []⟩ w := by
  have HN : Hid (_ → ∀ w', GrX p w w' → _) := hN
  have HY : Hid (∀ d2, _ → ∀ w', AtA w' p (cB d2) 30 → GrX p w w' → _) := hY
  have HP : Hid (AtA w p (cB d) 30) := hp
  clear hN hY hp
  conv => arg 2; whnf
  rcases hs : st3 d with _ | d2
  · have HS : Hid (st3 d = none) := hs
    clear hs
    go_wp2_with (first
      | (go_at_call 98; refine (sp3_no p d g HS.out _ HP.out).mono ?_; rintro e w1 ⟨rfl, _, hX⟩; have HX : Hid (GrX p w w1) := hX; clear hX))
    exact HN.out HS.out _ HX.out
  · have HS : Hid (st3 d = some d2) := hs
    clear hs
    go_wp2_with (first
      | (go_at_call 98; refine (sp3_yes p d d2 g HS.out _ HP.out).mono ?_; rintro e w1 ⟨rfl, hA, hX⟩; have HX : Hid (AtA w1 p (cB d2) 30 ∧ GrX p w w1) := ⟨hA, hX⟩; clear hX hA))
    exact HY.out d2 HS.out _ HX.out.1 HX.out.2
end Go.Proofs.YtcbcijibgpaipaaGreat
end
section
namespace Go.Proofs.YtcbcijibgpaipaaGreat
open Go.ChangeShapes Go.WideShapes Go.ChangeAt Go.RowKit
open Tn (iv)
set_option linter.unusedVariables false
set_option maxRecDepth 20000

set_option maxHeartbeats 1000000 in
theorem reg9_3 (p : Nat) (d : Bd) (g : Good d) (w : World) (hp : AtA w p (cB d) 30) (Qp : Exit → Act → World → Prop) (c0 c2 c3 c4 c6 c7 c8 c9 c10 c11 c12 c13 c14 c15 c16 c17 c18 c19 c20 c21 c22 c23 c24 c25 c26 c27 c28 c29 c30 c31 c32 c33 c34 c35 c36 c37 c38 c39 c40 c41 c42 c43 c44 : Value) (hN : st4 d = none → ∀ w', GrX p w w' → Qp .normal ⟨#[c0, .pointer (some ⟨p, 0, none⟩), c2, c3, c4, .func (.func 100) #[] #[], c6, c7, c8, c9, c10, c11, c12, c13, c14, c15, c16, c17, c18, c19, c20, c21, c22, c23, c24, c25, c26, c27, c28, c29, c30, c31, c32, c33, c34, c35, c36, c37, .func (.func 100) #[] #[], .bool false, .bool true, c41, c42, c43, c44], []⟩ w') (hY : ∀ d2, st4 d = some d2 → ∀ w', AtA w' p (cB d2) 30 → GrX p w w' → Qp .normal ⟨#[c0, .pointer (some ⟨p, 0, none⟩), c2, c3, c4, .func (.func 100) #[] #[], c6, c7, c8, c9, c10, c11, c12, c13, c14, c15, c16, c17, c18, c19, c20, c21, c22, c23, c24, c25, c26, c27, c28, c29, c30, c31, c32, c33, c34, c35, c36, c37, .func (.func 100) #[] #[], .bool true, .bool false, c41, c42, c43, c44], []⟩ w') : Code.wp Tryz.prog (regS 9) Qp ⟨#[c0, .pointer (some ⟨p, 0, none⟩), c2, c3, c4, .func (.func 100) #[] #[], c6, c7, c8, c9, c10, c11, c12, c13, c14, c15, c16, c17, c18, c19, c20, c21, c22, c23, c24, c25, c26, c27, c28, c29, c30, c31, c32, c33, c34, c35, c36, c37, c38, c39, c40, c41, c42, c43, c44], []⟩ w := by
  have HN : Hid (_ → ∀ w', GrX p w w' → _) := hN
  have HY : Hid (∀ d2, _ → ∀ w', AtA w' p (cB d2) 30 → GrX p w w' → _) := hY
  have HP : Hid (AtA w p (cB d) 30) := hp
  clear hN hY hp
  conv => arg 2; whnf
  rcases hs : st4 d with _ | d2
  · have HS : Hid (st4 d = none) := hs
    clear hs
    go_wp2_with (first
      | (go_at_call 100; refine (sp4_no p d g HS.out _ HP.out).mono ?_; rintro e w1 ⟨rfl, _, hX⟩; have HX : Hid (GrX p w w1) := hX; clear hX))
    exact HN.out HS.out _ HX.out
  · have HS : Hid (st4 d = some d2) := hs
    clear hs
    go_wp2_with (first
      | (go_at_call 100; refine (sp4_yes p d d2 g HS.out _ HP.out).mono ?_; rintro e w1 ⟨rfl, hA, hX⟩; have HX : Hid (AtA w1 p (cB d2) 30 ∧ GrX p w w1) := ⟨hA, hX⟩; clear hX hA))
    exact HY.out d2 HS.out _ HX.out.1 HX.out.2
set_option maxHeartbeats 1000000 in
theorem reg9_4 (p : Nat) (d : Bd) (g : Good d) (w : World) (hp : AtA w p (cB d) 30) (Qp : Exit → Act → World → Prop) (c0 c2 c3 c4 c6 c7 c8 c9 c10 c11 c12 c13 c14 c15 c16 c17 c18 c19 c20 c21 c22 c23 c24 c25 c26 c27 c28 c29 c30 c31 c32 c33 c34 c35 c36 c37 c38 c39 c40 c41 c42 c43 c44 : Value) (hN : st5 d = none → ∀ w', GrX p w w' → Qp .normal ⟨#[c0, .pointer (some ⟨p, 0, none⟩), c2, c3, c4, .func (.func 102) #[] #[], c6, c7, c8, c9, c10, c11, c12, c13, c14, c15, c16, c17, c18, c19, c20, c21, c22, c23, c24, c25, c26, c27, c28, c29, c30, c31, c32, c33, c34, c35, c36, c37, .func (.func 102) #[] #[], .bool false, .bool true, c41, c42, c43, c44], []⟩ w') (hY : ∀ d2, st5 d = some d2 → ∀ w', AtA w' p (cB d2) 30 → GrX p w w' → Qp .normal ⟨#[c0, .pointer (some ⟨p, 0, none⟩), c2, c3, c4, .func (.func 102) #[] #[], c6, c7, c8, c9, c10, c11, c12, c13, c14, c15, c16, c17, c18, c19, c20, c21, c22, c23, c24, c25, c26, c27, c28, c29, c30, c31, c32, c33, c34, c35, c36, c37, .func (.func 102) #[] #[], .bool true, .bool false, c41, c42, c43, c44], []⟩ w') : Code.wp Tryz.prog (regS 9) Qp ⟨#[c0, .pointer (some ⟨p, 0, none⟩), c2, c3, c4, .func (.func 102) #[] #[], c6, c7, c8, c9, c10, c11, c12, c13, c14, c15, c16, c17, c18, c19, c20, c21, c22, c23, c24, c25, c26, c27, c28, c29, c30, c31, c32, c33, c34, c35, c36, c37, c38, c39, c40, c41, c42, c43, c44], []⟩ w := by
  have HN : Hid (_ → ∀ w', GrX p w w' → _) := hN
  have HY : Hid (∀ d2, _ → ∀ w', AtA w' p (cB d2) 30 → GrX p w w' → _) := hY
  have HP : Hid (AtA w p (cB d) 30) := hp
  clear hN hY hp
  conv => arg 2; whnf
  rcases hs : st5 d with _ | d2
  · have HS : Hid (st5 d = none) := hs
    clear hs
    go_wp2_with (first
      | (go_at_call 102; refine (sp5_no p d g HS.out _ HP.out).mono ?_; rintro e w1 ⟨rfl, _, hX⟩; have HX : Hid (GrX p w w1) := hX; clear hX))
    exact HN.out HS.out _ HX.out
  · have HS : Hid (st5 d = some d2) := hs
    clear hs
    go_wp2_with (first
      | (go_at_call 102; refine (sp5_yes p d d2 g HS.out _ HP.out).mono ?_; rintro e w1 ⟨rfl, hA, hX⟩; have HX : Hid (AtA w1 p (cB d2) 30 ∧ GrX p w w1) := ⟨hA, hX⟩; clear hX hA))
    exact HY.out d2 HS.out _ HX.out.1 HX.out.2
set_option maxHeartbeats 1000000 in
theorem reg9_5 (p : Nat) (d : Bd) (g : Good d) (w : World) (hp : AtA w p (cB d) 30) (Qp : Exit → Act → World → Prop) (c0 c2 c3 c4 c6 c7 c8 c9 c10 c11 c12 c13 c14 c15 c16 c17 c18 c19 c20 c21 c22 c23 c24 c25 c26 c27 c28 c29 c30 c31 c32 c33 c34 c35 c36 c37 c38 c39 c40 c41 c42 c43 c44 : Value) (hN : st6 d = none → ∀ w', GrX p w w' → Qp .normal ⟨#[c0, .pointer (some ⟨p, 0, none⟩), c2, c3, c4, .func (.func 105) #[] #[], c6, c7, c8, c9, c10, c11, c12, c13, c14, c15, c16, c17, c18, c19, c20, c21, c22, c23, c24, c25, c26, c27, c28, c29, c30, c31, c32, c33, c34, c35, c36, c37, .func (.func 105) #[] #[], .bool false, .bool true, c41, c42, c43, c44], []⟩ w') (hY : ∀ d2, st6 d = some d2 → ∀ w', AtA w' p (cB d2) 30 → GrX p w w' → Qp .normal ⟨#[c0, .pointer (some ⟨p, 0, none⟩), c2, c3, c4, .func (.func 105) #[] #[], c6, c7, c8, c9, c10, c11, c12, c13, c14, c15, c16, c17, c18, c19, c20, c21, c22, c23, c24, c25, c26, c27, c28, c29, c30, c31, c32, c33, c34, c35, c36, c37, .func (.func 105) #[] #[], .bool true, .bool false, c41, c42, c43, c44], []⟩ w') : Code.wp Tryz.prog (regS 9) Qp ⟨#[c0, .pointer (some ⟨p, 0, none⟩), c2, c3, c4, .func (.func 105) #[] #[], c6, c7, c8, c9, c10, c11, c12, c13, c14, c15, c16, c17, c18, c19, c20, c21, c22, c23, c24, c25, c26, c27, c28, c29, c30, c31, c32, c33, c34, c35, c36, c37, c38, c39, c40, c41, c42, c43, c44], []⟩ w := by
  have HN : Hid (_ → ∀ w', GrX p w w' → _) := hN
  have HY : Hid (∀ d2, _ → ∀ w', AtA w' p (cB d2) 30 → GrX p w w' → _) := hY
  have HP : Hid (AtA w p (cB d) 30) := hp
  clear hN hY hp
  conv => arg 2; whnf
  rcases hs : st6 d with _ | d2
  · have HS : Hid (st6 d = none) := hs
    clear hs
    go_wp2_with (first
      | (go_at_call 105; refine (sp6_no p d g HS.out _ HP.out).mono ?_; rintro e w1 ⟨rfl, _, hX⟩; have HX : Hid (GrX p w w1) := hX; clear hX))
    exact HN.out HS.out _ HX.out
  · have HS : Hid (st6 d = some d2) := hs
    clear hs
    go_wp2_with (first
      | (go_at_call 105; refine (sp6_yes p d d2 g HS.out _ HP.out).mono ?_; rintro e w1 ⟨rfl, hA, hX⟩; have HX : Hid (AtA w1 p (cB d2) 30 ∧ GrX p w w1) := ⟨hA, hX⟩; clear hX hA))
    exact HY.out d2 HS.out _ HX.out.1 HX.out.2
set_option maxHeartbeats 1000000 in
theorem reg9_6 (p : Nat) (d : Bd) (g : Good d) (w : World) (hp : AtA w p (cB d) 30) (Qp : Exit → Act → World → Prop) (c0 c2 c3 c4 c6 c7 c8 c9 c10 c11 c12 c13 c14 c15 c16 c17 c18 c19 c20 c21 c22 c23 c24 c25 c26 c27 c28 c29 c30 c31 c32 c33 c34 c35 c36 c37 c38 c39 c40 c41 c42 c43 c44 : Value) (hN : st7 d = none → ∀ w', GrX p w w' → Qp .normal ⟨#[c0, .pointer (some ⟨p, 0, none⟩), c2, c3, c4, .func (.func 106) #[] #[], c6, c7, c8, c9, c10, c11, c12, c13, c14, c15, c16, c17, c18, c19, c20, c21, c22, c23, c24, c25, c26, c27, c28, c29, c30, c31, c32, c33, c34, c35, c36, c37, .func (.func 106) #[] #[], .bool false, .bool true, c41, c42, c43, c44], []⟩ w') (hY : ∀ d2, st7 d = some d2 → ∀ w', AtA w' p (cB d2) 30 → GrX p w w' → Qp .normal ⟨#[c0, .pointer (some ⟨p, 0, none⟩), c2, c3, c4, .func (.func 106) #[] #[], c6, c7, c8, c9, c10, c11, c12, c13, c14, c15, c16, c17, c18, c19, c20, c21, c22, c23, c24, c25, c26, c27, c28, c29, c30, c31, c32, c33, c34, c35, c36, c37, .func (.func 106) #[] #[], .bool true, .bool false, c41, c42, c43, c44], []⟩ w') : Code.wp Tryz.prog (regS 9) Qp ⟨#[c0, .pointer (some ⟨p, 0, none⟩), c2, c3, c4, .func (.func 106) #[] #[], c6, c7, c8, c9, c10, c11, c12, c13, c14, c15, c16, c17, c18, c19, c20, c21, c22, c23, c24, c25, c26, c27, c28, c29, c30, c31, c32, c33, c34, c35, c36, c37, c38, c39, c40, c41, c42, c43, c44], []⟩ w := by
  have HN : Hid (_ → ∀ w', GrX p w w' → _) := hN
  have HY : Hid (∀ d2, _ → ∀ w', AtA w' p (cB d2) 30 → GrX p w w' → _) := hY
  have HP : Hid (AtA w p (cB d) 30) := hp
  clear hN hY hp
  conv => arg 2; whnf
  rcases hs : st7 d with _ | d2
  · have HS : Hid (st7 d = none) := hs
    clear hs
    go_wp2_with (first
      | (go_at_call 106; refine (sp7_no p d g HS.out _ HP.out).mono ?_; rintro e w1 ⟨rfl, _, hX⟩; have HX : Hid (GrX p w w1) := hX; clear hX))
    exact HN.out HS.out _ HX.out
  · have HS : Hid (st7 d = some d2) := hs
    clear hs
    go_wp2_with (first
      | (go_at_call 106; refine (sp7_yes p d d2 g HS.out _ HP.out).mono ?_; rintro e w1 ⟨rfl, hA, hX⟩; have HX : Hid (AtA w1 p (cB d2) 30 ∧ GrX p w w1) := ⟨hA, hX⟩; clear hX hA))
    exact HY.out d2 HS.out _ HX.out.1 HX.out.2
end Go.Proofs.YtcbcijibgpaipaaGreat
end
section
namespace Go.Proofs.YtcbcijibgpaipaaGreat
open Go.ChangeShapes Go.WideShapes Go.ChangeAt Go.RowKit
open Tn (iv)
set_option linter.unusedVariables false
set_option maxRecDepth 20000

set_option maxHeartbeats 1000000 in
theorem reg9_7 (p : Nat) (d : Bd) (g : Good d) (w : World) (hp : AtA w p (cB d) 30) (Qp : Exit → Act → World → Prop) (c0 c2 c3 c4 c6 c7 c8 c9 c10 c11 c12 c13 c14 c15 c16 c17 c18 c19 c20 c21 c22 c23 c24 c25 c26 c27 c28 c29 c30 c31 c32 c33 c34 c35 c36 c37 c38 c39 c40 c41 c42 c43 c44 : Value) (hN : st8 d = none → ∀ w', GrX p w w' → Qp .normal ⟨#[c0, .pointer (some ⟨p, 0, none⟩), c2, c3, c4, .func (.func 107) #[] #[], c6, c7, c8, c9, c10, c11, c12, c13, c14, c15, c16, c17, c18, c19, c20, c21, c22, c23, c24, c25, c26, c27, c28, c29, c30, c31, c32, c33, c34, c35, c36, c37, .func (.func 107) #[] #[], .bool false, .bool true, c41, c42, c43, c44], []⟩ w') (hY : ∀ d2, st8 d = some d2 → ∀ w', AtA w' p (cB d2) 30 → GrX p w w' → Qp .normal ⟨#[c0, .pointer (some ⟨p, 0, none⟩), c2, c3, c4, .func (.func 107) #[] #[], c6, c7, c8, c9, c10, c11, c12, c13, c14, c15, c16, c17, c18, c19, c20, c21, c22, c23, c24, c25, c26, c27, c28, c29, c30, c31, c32, c33, c34, c35, c36, c37, .func (.func 107) #[] #[], .bool true, .bool false, c41, c42, c43, c44], []⟩ w') : Code.wp Tryz.prog (regS 9) Qp ⟨#[c0, .pointer (some ⟨p, 0, none⟩), c2, c3, c4, .func (.func 107) #[] #[], c6, c7, c8, c9, c10, c11, c12, c13, c14, c15, c16, c17, c18, c19, c20, c21, c22, c23, c24, c25, c26, c27, c28, c29, c30, c31, c32, c33, c34, c35, c36, c37, c38, c39, c40, c41, c42, c43, c44], []⟩ w := by
  have HN : Hid (_ → ∀ w', GrX p w w' → _) := hN
  have HY : Hid (∀ d2, _ → ∀ w', AtA w' p (cB d2) 30 → GrX p w w' → _) := hY
  have HP : Hid (AtA w p (cB d) 30) := hp
  clear hN hY hp
  conv => arg 2; whnf
  rcases hs : st8 d with _ | d2
  · have HS : Hid (st8 d = none) := hs
    clear hs
    go_wp2_with (first
      | (go_at_call 107; refine (sp8_no p d g HS.out _ HP.out).mono ?_; rintro e w1 ⟨rfl, _, hX⟩; have HX : Hid (GrX p w w1) := hX; clear hX))
    exact HN.out HS.out _ HX.out
  · have HS : Hid (st8 d = some d2) := hs
    clear hs
    go_wp2_with (first
      | (go_at_call 107; refine (sp8_yes p d d2 g HS.out _ HP.out).mono ?_; rintro e w1 ⟨rfl, hA, hX⟩; have HX : Hid (AtA w1 p (cB d2) 30 ∧ GrX p w w1) := ⟨hA, hX⟩; clear hX hA))
    exact HY.out d2 HS.out _ HX.out.1 HX.out.2
set_option maxHeartbeats 1000000 in
theorem reg9_8 (p : Nat) (d : Bd) (g : Good d) (w : World) (hp : AtA w p (cB d) 30) (Qp : Exit → Act → World → Prop) (c0 c2 c3 c4 c6 c7 c8 c9 c10 c11 c12 c13 c14 c15 c16 c17 c18 c19 c20 c21 c22 c23 c24 c25 c26 c27 c28 c29 c30 c31 c32 c33 c34 c35 c36 c37 c38 c39 c40 c41 c42 c43 c44 : Value) (hN : st9 d = none → ∀ w', GrX p w w' → Qp .normal ⟨#[c0, .pointer (some ⟨p, 0, none⟩), c2, c3, c4, .func (.func 109) #[] #[], c6, c7, c8, c9, c10, c11, c12, c13, c14, c15, c16, c17, c18, c19, c20, c21, c22, c23, c24, c25, c26, c27, c28, c29, c30, c31, c32, c33, c34, c35, c36, c37, .func (.func 109) #[] #[], .bool false, .bool true, c41, c42, c43, c44], []⟩ w') (hY : ∀ d2, st9 d = some d2 → ∀ w', AtA w' p (cB d2) 30 → GrX p w w' → Qp .normal ⟨#[c0, .pointer (some ⟨p, 0, none⟩), c2, c3, c4, .func (.func 109) #[] #[], c6, c7, c8, c9, c10, c11, c12, c13, c14, c15, c16, c17, c18, c19, c20, c21, c22, c23, c24, c25, c26, c27, c28, c29, c30, c31, c32, c33, c34, c35, c36, c37, .func (.func 109) #[] #[], .bool true, .bool false, c41, c42, c43, c44], []⟩ w') : Code.wp Tryz.prog (regS 9) Qp ⟨#[c0, .pointer (some ⟨p, 0, none⟩), c2, c3, c4, .func (.func 109) #[] #[], c6, c7, c8, c9, c10, c11, c12, c13, c14, c15, c16, c17, c18, c19, c20, c21, c22, c23, c24, c25, c26, c27, c28, c29, c30, c31, c32, c33, c34, c35, c36, c37, c38, c39, c40, c41, c42, c43, c44], []⟩ w := by
  have HN : Hid (_ → ∀ w', GrX p w w' → _) := hN
  have HY : Hid (∀ d2, _ → ∀ w', AtA w' p (cB d2) 30 → GrX p w w' → _) := hY
  have HP : Hid (AtA w p (cB d) 30) := hp
  clear hN hY hp
  conv => arg 2; whnf
  rcases hs : st9 d with _ | d2
  · have HS : Hid (st9 d = none) := hs
    clear hs
    go_wp2_with (first
      | (go_at_call 109; refine (sp9_no p d g HS.out _ HP.out).mono ?_; rintro e w1 ⟨rfl, _, hX⟩; have HX : Hid (GrX p w w1) := hX; clear hX))
    exact HN.out HS.out _ HX.out
  · have HS : Hid (st9 d = some d2) := hs
    clear hs
    go_wp2_with (first
      | (go_at_call 109; refine (sp9_yes p d d2 g HS.out _ HP.out).mono ?_; rintro e w1 ⟨rfl, hA, hX⟩; have HX : Hid (AtA w1 p (cB d2) 30 ∧ GrX p w w1) := ⟨hA, hX⟩; clear hX hA))
    exact HY.out d2 HS.out _ HX.out.1 HX.out.2
set_option maxHeartbeats 1000000 in
theorem reg9_9 (p : Nat) (d : Bd) (g : Good d) (w : World) (hp : AtA w p (cB d) 30) (Qp : Exit → Act → World → Prop) (c0 c2 c3 c4 c6 c7 c8 c9 c10 c11 c12 c13 c14 c15 c16 c17 c18 c19 c20 c21 c22 c23 c24 c25 c26 c27 c28 c29 c30 c31 c32 c33 c34 c35 c36 c37 c38 c39 c40 c41 c42 c43 c44 : Value) (hN : st10 d = none → ∀ w', GrX p w w' → Qp .normal ⟨#[c0, .pointer (some ⟨p, 0, none⟩), c2, c3, c4, .func (.func 111) #[] #[], c6, c7, c8, c9, c10, c11, c12, c13, c14, c15, c16, c17, c18, c19, c20, c21, c22, c23, c24, c25, c26, c27, c28, c29, c30, c31, c32, c33, c34, c35, c36, c37, .func (.func 111) #[] #[], .bool false, .bool true, c41, c42, c43, c44], []⟩ w') (hY : ∀ d2, st10 d = some d2 → ∀ w', AtA w' p (cB d2) 30 → GrX p w w' → Qp .normal ⟨#[c0, .pointer (some ⟨p, 0, none⟩), c2, c3, c4, .func (.func 111) #[] #[], c6, c7, c8, c9, c10, c11, c12, c13, c14, c15, c16, c17, c18, c19, c20, c21, c22, c23, c24, c25, c26, c27, c28, c29, c30, c31, c32, c33, c34, c35, c36, c37, .func (.func 111) #[] #[], .bool true, .bool false, c41, c42, c43, c44], []⟩ w') : Code.wp Tryz.prog (regS 9) Qp ⟨#[c0, .pointer (some ⟨p, 0, none⟩), c2, c3, c4, .func (.func 111) #[] #[], c6, c7, c8, c9, c10, c11, c12, c13, c14, c15, c16, c17, c18, c19, c20, c21, c22, c23, c24, c25, c26, c27, c28, c29, c30, c31, c32, c33, c34, c35, c36, c37, c38, c39, c40, c41, c42, c43, c44], []⟩ w := by
  have HN : Hid (_ → ∀ w', GrX p w w' → _) := hN
  have HY : Hid (∀ d2, _ → ∀ w', AtA w' p (cB d2) 30 → GrX p w w' → _) := hY
  have HP : Hid (AtA w p (cB d) 30) := hp
  clear hN hY hp
  conv => arg 2; whnf
  rcases hs : st10 d with _ | d2
  · have HS : Hid (st10 d = none) := hs
    clear hs
    go_wp2_with (first
      | (go_at_call 111; refine (sp10_no p d g HS.out _ HP.out).mono ?_; rintro e w1 ⟨rfl, _, hX⟩; have HX : Hid (GrX p w w1) := hX; clear hX))
    exact HN.out HS.out _ HX.out
  · have HS : Hid (st10 d = some d2) := hs
    clear hs
    go_wp2_with (first
      | (go_at_call 111; refine (sp10_yes p d d2 g HS.out _ HP.out).mono ?_; rintro e w1 ⟨rfl, hA, hX⟩; have HX : Hid (AtA w1 p (cB d2) 30 ∧ GrX p w w1) := ⟨hA, hX⟩; clear hX hA))
    exact HY.out d2 HS.out _ HX.out.1 HX.out.2
set_option maxHeartbeats 1000000 in
theorem reg9_10 (p : Nat) (d : Bd) (g : Good d) (w : World) (hp : AtA w p (cB d) 30) (Qp : Exit → Act → World → Prop) (c0 c2 c3 c4 c6 c7 c8 c9 c10 c11 c12 c13 c14 c15 c16 c17 c18 c19 c20 c21 c22 c23 c24 c25 c26 c27 c28 c29 c30 c31 c32 c33 c34 c35 c36 c37 c38 c39 c40 c41 c42 c43 c44 : Value) (hN : st11 d = none → ∀ w', GrX p w w' → Qp .normal ⟨#[c0, .pointer (some ⟨p, 0, none⟩), c2, c3, c4, .func (.func 113) #[] #[], c6, c7, c8, c9, c10, c11, c12, c13, c14, c15, c16, c17, c18, c19, c20, c21, c22, c23, c24, c25, c26, c27, c28, c29, c30, c31, c32, c33, c34, c35, c36, c37, .func (.func 113) #[] #[], .bool false, .bool true, c41, c42, c43, c44], []⟩ w') (hY : ∀ d2, st11 d = some d2 → ∀ w', AtA w' p (cB d2) 30 → GrX p w w' → Qp .normal ⟨#[c0, .pointer (some ⟨p, 0, none⟩), c2, c3, c4, .func (.func 113) #[] #[], c6, c7, c8, c9, c10, c11, c12, c13, c14, c15, c16, c17, c18, c19, c20, c21, c22, c23, c24, c25, c26, c27, c28, c29, c30, c31, c32, c33, c34, c35, c36, c37, .func (.func 113) #[] #[], .bool true, .bool false, c41, c42, c43, c44], []⟩ w') : Code.wp Tryz.prog (regS 9) Qp ⟨#[c0, .pointer (some ⟨p, 0, none⟩), c2, c3, c4, .func (.func 113) #[] #[], c6, c7, c8, c9, c10, c11, c12, c13, c14, c15, c16, c17, c18, c19, c20, c21, c22, c23, c24, c25, c26, c27, c28, c29, c30, c31, c32, c33, c34, c35, c36, c37, c38, c39, c40, c41, c42, c43, c44], []⟩ w := by
  have HN : Hid (_ → ∀ w', GrX p w w' → _) := hN
  have HY : Hid (∀ d2, _ → ∀ w', AtA w' p (cB d2) 30 → GrX p w w' → _) := hY
  have HP : Hid (AtA w p (cB d) 30) := hp
  clear hN hY hp
  conv => arg 2; whnf
  rcases hs : st11 d with _ | d2
  · have HS : Hid (st11 d = none) := hs
    clear hs
    go_wp2_with (first
      | (go_at_call 113; refine (sp11_no p d g HS.out _ HP.out).mono ?_; rintro e w1 ⟨rfl, _, hX⟩; have HX : Hid (GrX p w w1) := hX; clear hX))
    exact HN.out HS.out _ HX.out
  · have HS : Hid (st11 d = some d2) := hs
    clear hs
    go_wp2_with (first
      | (go_at_call 113; refine (sp11_yes p d d2 g HS.out _ HP.out).mono ?_; rintro e w1 ⟨rfl, hA, hX⟩; have HX : Hid (AtA w1 p (cB d2) 30 ∧ GrX p w w1) := ⟨hA, hX⟩; clear hX hA))
    exact HY.out d2 HS.out _ HX.out.1 HX.out.2
end Go.Proofs.YtcbcijibgpaipaaGreat
end
section
namespace Go.Proofs.YtcbcijibgpaipaaGreat
open Go.ChangeShapes Go.WideShapes Go.ChangeAt Go.RowKit
open Tn (iv)
set_option linter.unusedVariables false
set_option maxRecDepth 20000

theorem stN_0 : stN 0 = st1 := by simp only [stN]
theorem stN_1 : stN 1 = st2 := by simp only [stN]
theorem stN_2 : stN 2 = st3 := by simp only [stN]
theorem stN_3 : stN 3 = st4 := by simp only [stN]
theorem stN_4 : stN 4 = st5 := by simp only [stN]
theorem stN_5 : stN 5 = st6 := by simp only [stN]
theorem stN_6 : stN 6 = st7 := by simp only [stN]
theorem stN_7 : stN 7 = st8 := by simp only [stN]
theorem stN_8 : stN 8 = st9 := by simp only [stN]
theorem stN_9 : stN 9 = st10 := by simp only [stN]
theorem stN_10 : stN 10 = st11 := by simp only [stN]
theorem reg9_any (j : Nat) (hj : j < 11) (fv : Value) (hfv : fv = .func (.func (fnN j)) #[] #[]) (p : Nat) (d : Bd) (g : Good d) (w : World) (hp : AtA w p (cB d) 30) (Qp : Exit → Act → World → Prop) (c0 c2 c3 c4 c6 c7 c8 c9 c10 c11 c12 c13 c14 c15 c16 c17 c18 c19 c20 c21 c22 c23 c24 c25 c26 c27 c28 c29 c30 c31 c32 c33 c34 c35 c36 c37 c38 c39 c40 c41 c42 c43 c44 : Value) (hN : stN j d = none → ∀ w', GrX p w w' → Qp .normal ⟨#[c0, .pointer (some ⟨p, 0, none⟩), c2, c3, c4, fv, c6, c7, c8, c9, c10, c11, c12, c13, c14, c15, c16, c17, c18, c19, c20, c21, c22, c23, c24, c25, c26, c27, c28, c29, c30, c31, c32, c33, c34, c35, c36, c37, fv, .bool false, .bool true, c41, c42, c43, c44], []⟩ w') (hY : ∀ d2, stN j d = some d2 → ∀ w', AtA w' p (cB d2) 30 → GrX p w w' → Qp .normal ⟨#[c0, .pointer (some ⟨p, 0, none⟩), c2, c3, c4, fv, c6, c7, c8, c9, c10, c11, c12, c13, c14, c15, c16, c17, c18, c19, c20, c21, c22, c23, c24, c25, c26, c27, c28, c29, c30, c31, c32, c33, c34, c35, c36, c37, fv, .bool true, .bool false, c41, c42, c43, c44], []⟩ w') : Code.wp Tryz.prog (regS 9) Qp ⟨#[c0, .pointer (some ⟨p, 0, none⟩), c2, c3, c4, fv, c6, c7, c8, c9, c10, c11, c12, c13, c14, c15, c16, c17, c18, c19, c20, c21, c22, c23, c24, c25, c26, c27, c28, c29, c30, c31, c32, c33, c34, c35, c36, c37, c38, c39, c40, c41, c42, c43, c44], []⟩ w := by
  rcases (by omega : j = 0 ∨ j = 1 ∨ j = 2 ∨ j = 3 ∨ j = 4 ∨ j = 5 ∨ j = 6 ∨ j = 7 ∨ j = 8 ∨ j = 9 ∨ j = 10) with rfl | rfl | rfl | rfl | rfl | rfl | rfl | rfl | rfl | rfl | rfl
  · replace hfv : fv = .func (.func 92) #[] #[] := hfv
    subst hfv
    rw [stN_0] at hN hY
    exact reg9_0 p d g w hp Qp c0 c2 c3 c4 c6 c7 c8 c9 c10 c11 c12 c13 c14 c15 c16 c17 c18 c19 c20 c21 c22 c23 c24 c25 c26 c27 c28 c29 c30 c31 c32 c33 c34 c35 c36 c37 c38 c39 c40 c41 c42 c43 c44 hN hY
  · replace hfv : fv = .func (.func 95) #[] #[] := hfv
    subst hfv
    rw [stN_1] at hN hY
    exact reg9_1 p d g w hp Qp c0 c2 c3 c4 c6 c7 c8 c9 c10 c11 c12 c13 c14 c15 c16 c17 c18 c19 c20 c21 c22 c23 c24 c25 c26 c27 c28 c29 c30 c31 c32 c33 c34 c35 c36 c37 c38 c39 c40 c41 c42 c43 c44 hN hY
  · replace hfv : fv = .func (.func 98) #[] #[] := hfv
    subst hfv
    rw [stN_2] at hN hY
    exact reg9_2 p d g w hp Qp c0 c2 c3 c4 c6 c7 c8 c9 c10 c11 c12 c13 c14 c15 c16 c17 c18 c19 c20 c21 c22 c23 c24 c25 c26 c27 c28 c29 c30 c31 c32 c33 c34 c35 c36 c37 c38 c39 c40 c41 c42 c43 c44 hN hY
  · replace hfv : fv = .func (.func 100) #[] #[] := hfv
    subst hfv
    rw [stN_3] at hN hY
    exact reg9_3 p d g w hp Qp c0 c2 c3 c4 c6 c7 c8 c9 c10 c11 c12 c13 c14 c15 c16 c17 c18 c19 c20 c21 c22 c23 c24 c25 c26 c27 c28 c29 c30 c31 c32 c33 c34 c35 c36 c37 c38 c39 c40 c41 c42 c43 c44 hN hY
  · replace hfv : fv = .func (.func 102) #[] #[] := hfv
    subst hfv
    rw [stN_4] at hN hY
    exact reg9_4 p d g w hp Qp c0 c2 c3 c4 c6 c7 c8 c9 c10 c11 c12 c13 c14 c15 c16 c17 c18 c19 c20 c21 c22 c23 c24 c25 c26 c27 c28 c29 c30 c31 c32 c33 c34 c35 c36 c37 c38 c39 c40 c41 c42 c43 c44 hN hY
  · replace hfv : fv = .func (.func 105) #[] #[] := hfv
    subst hfv
    rw [stN_5] at hN hY
    exact reg9_5 p d g w hp Qp c0 c2 c3 c4 c6 c7 c8 c9 c10 c11 c12 c13 c14 c15 c16 c17 c18 c19 c20 c21 c22 c23 c24 c25 c26 c27 c28 c29 c30 c31 c32 c33 c34 c35 c36 c37 c38 c39 c40 c41 c42 c43 c44 hN hY
  · replace hfv : fv = .func (.func 106) #[] #[] := hfv
    subst hfv
    rw [stN_6] at hN hY
    exact reg9_6 p d g w hp Qp c0 c2 c3 c4 c6 c7 c8 c9 c10 c11 c12 c13 c14 c15 c16 c17 c18 c19 c20 c21 c22 c23 c24 c25 c26 c27 c28 c29 c30 c31 c32 c33 c34 c35 c36 c37 c38 c39 c40 c41 c42 c43 c44 hN hY
  · replace hfv : fv = .func (.func 107) #[] #[] := hfv
    subst hfv
    rw [stN_7] at hN hY
    exact reg9_7 p d g w hp Qp c0 c2 c3 c4 c6 c7 c8 c9 c10 c11 c12 c13 c14 c15 c16 c17 c18 c19 c20 c21 c22 c23 c24 c25 c26 c27 c28 c29 c30 c31 c32 c33 c34 c35 c36 c37 c38 c39 c40 c41 c42 c43 c44 hN hY
  · replace hfv : fv = .func (.func 109) #[] #[] := hfv
    subst hfv
    rw [stN_8] at hN hY
    exact reg9_8 p d g w hp Qp c0 c2 c3 c4 c6 c7 c8 c9 c10 c11 c12 c13 c14 c15 c16 c17 c18 c19 c20 c21 c22 c23 c24 c25 c26 c27 c28 c29 c30 c31 c32 c33 c34 c35 c36 c37 c38 c39 c40 c41 c42 c43 c44 hN hY
  · replace hfv : fv = .func (.func 111) #[] #[] := hfv
    subst hfv
    rw [stN_9] at hN hY
    exact reg9_9 p d g w hp Qp c0 c2 c3 c4 c6 c7 c8 c9 c10 c11 c12 c13 c14 c15 c16 c17 c18 c19 c20 c21 c22 c23 c24 c25 c26 c27 c28 c29 c30 c31 c32 c33 c34 c35 c36 c37 c38 c39 c40 c41 c42 c43 c44 hN hY
  · replace hfv : fv = .func (.func 113) #[] #[] := hfv
    subst hfv
    rw [stN_10] at hN hY
    exact reg9_10 p d g w hp Qp c0 c2 c3 c4 c6 c7 c8 c9 c10 c11 c12 c13 c14 c15 c16 c17 c18 c19 c20 c21 c22 c23 c24 c25 c26 c27 c28 c29 c30 c31 c32 c33 c34 c35 c36 c37 c38 c39 c40 c41 c42 c43 c44 hN hY
end Go.Proofs.YtcbcijibgpaipaaGreat
end
