/- Towards the statements of package bound (layer 5): three rounds, as the program does them: one step, by its number. -/
import Derived.Test.YtekenpgagfmgkabGreatBH
namespace Go.Proofs.YtekenpgagfmgkabGreat
open Go.ChangeShapes Go.WideShapes Go.ChangeAt Go.RowKit
open Tn (iv)
set_option linter.unusedVariables false
set_option maxRecDepth 20000

/-- A statement of a function, by its number. -/
def regOf (n : Nat) : Code → Option Code
  | .region id ops b => bif Nat.beq id n then some (.region id ops b) else none
  | .seq a b => match regOf n a with
    | some c => some c
    | none => regOf n b
  | .loop c => regOf n c
  | .block _ c => regOf n c
  | .scope c => regOf n c
  | .cond _ a b => match regOf n a with
    | some c => some c
    | none => regOf n b
  | _ => none
noncomputable def regS (n : Nat) : Code := (Tryz.f9.body.bind (regOf n)).getD .skip
def fnN (n : Nat) : Nat := match n with
  | 0 => 66
  | 1 => 69
  | 2 => 72
  | 3 => 74
  | 4 => 76
  | 5 => 79
  | 6 => 81
  | 7 => 82
  | 8 => 84
  | 9 => 86
  | _ => 88
theorem fn_at (j : Nat) (hj : j < 11) : (#[.func (.func 66) #[] #[], .func (.func 69) #[] #[], .func (.func 72) #[] #[], .func (.func 74) #[] #[], .func (.func 76) #[] #[], .func (.func 79) #[] #[], .func (.func 81) #[] #[], .func (.func 82) #[] #[], .func (.func 84) #[] #[], .func (.func 86) #[] #[], .func (.func 88) #[] #[]] : Array Value)[j]? = some (.func (.func (fnN j)) #[] #[]) := by
  rcases (by omega : j = 0 ∨ j = 1 ∨ j = 2 ∨ j = 3 ∨ j = 4 ∨ j = 5 ∨ j = 6 ∨ j = 7 ∨ j = 8 ∨ j = 9 ∨ j = 10) with rfl | rfl | rfl | rfl | rfl | rfl | rfl | rfl | rfl | rfl | rfl <;> rfl
end Go.Proofs.YtekenpgagfmgkabGreat
