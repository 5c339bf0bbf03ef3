/- Towards the statements of package bound (layer 5): three rounds, as the program does them: one step, by its number. -/
import Derived.Test.YtdhmmjphjloneabGreatBH
namespace Go.Proofs.YtdhmmjphjloneabGreat
open Go.ChangeShapes Go.WideShapes Go.ChangeAt Go.RowKit
open Tn (iv)
set_option linter.unusedVariables false
set_option maxRecDepth 20000

/-- A statement of a function, by its number. -/
def regOf (n : Nat) : Code → Option Code
  | .region id ops b => bif Nat.beq id n then some (.region id ops b) else none
  | .seq a b => match regOf n a with
    | some c => some c
    | none => regOf n b
  | .loop c => regOf n c
  | .block _ c => regOf n c
  | .scope c => regOf n c
  | .cond _ a b => match regOf n a with
    | some c => some c
    | none => regOf n b
  | _ => none
noncomputable def regS (n : Nat) : Code := (Tryz.f5.body.bind (regOf n)).getD .skip
def fnN (n : Nat) : Nat := match n with
  | 0 => 38
  | 1 => 41
  | 2 => 44
  | 3 => 46
  | 4 => 48
  | 5 => 51
  | 6 => 53
  | 7 => 54
  | 8 => 56
  | 9 => 58
  | _ => 60
theorem fn_at (j : Nat) (hj : j < 11) : (#[.func (.func 38) #[] #[], .func (.func 41) #[] #[], .func (.func 44) #[] #[], .func (.func 46) #[] #[], .func (.func 48) #[] #[], .func (.func 51) #[] #[], .func (.func 53) #[] #[], .func (.func 54) #[] #[], .func (.func 56) #[] #[], .func (.func 58) #[] #[], .func (.func 60) #[] #[]] : Array Value)[j]? = some (.func (.func (fnN j)) #[] #[]) := by
  rcases (by omega : j = 0 ∨ j = 1 ∨ j = 2 ∨ j = 3 ∨ j = 4 ∨ j = 5 ∨ j = 6 ∨ j = 7 ∨ j = 8 ∨ j = 9 ∨ j = 10) with rfl | rfl | rfl | rfl | rfl | rfl | rfl | rfl | rfl | rfl | rfl <;> rfl
end Go.Proofs.YtdhmmjphjloneabGreat
