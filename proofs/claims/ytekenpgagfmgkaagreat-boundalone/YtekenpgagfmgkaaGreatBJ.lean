/- Towards the statements of package bound (layer 5): three rounds, as the program does them: one step, by its number. -/
import Derived.Test.YtekenpgagfmgkaaGreatBH
namespace Go.Proofs.YtekenpgagfmgkaaGreat
open Go.ChangeShapes Go.WideShapes Go.ChangeAt Go.RowKit
open Tn (iv)
set_option linter.unusedVariables false
set_option maxRecDepth 20000

/-- A statement of a function, by its number. -/
def regOf (n : Nat) : Code → Option Code
  | .region id ops b => bif Nat.beq id n then some (.region id ops b) else none
  | .seq a b => match regOf n a with
    | some c => some c
    | none => regOf n b
  | .loop c => regOf n c
  | .block _ c => regOf n c
  | .scope c => regOf n c
  | .cond _ a b => match regOf n a with
    | some c => some c
    | none => regOf n b
  | _ => none
noncomputable def regS (n : Nat) : Code := (Tryz.f11.body.bind (regOf n)).getD .skip
def fnN (n : Nat) : Nat := match n with
  | 0 => 79
  | 1 => 82
  | 2 => 85
  | 3 => 87
  | 4 => 89
  | 5 => 92
  | 6 => 93
  | 7 => 94
  | 8 => 96
  | 9 => 98
  | _ => 100
theorem fn_at (j : Nat) (hj : j < 11) : (#[.func (.func 79) #[] #[], .func (.func 82) #[] #[], .func (.func 85) #[] #[], .func (.func 87) #[] #[], .func (.func 89) #[] #[], .func (.func 92) #[] #[], .func (.func 93) #[] #[], .func (.func 94) #[] #[], .func (.func 96) #[] #[], .func (.func 98) #[] #[], .func (.func 100) #[] #[]] : Array Value)[j]? = some (.func (.func (fnN j)) #[] #[]) := by
  rcases (by omega : j = 0 ∨ j = 1 ∨ j = 2 ∨ j = 3 ∨ j = 4 ∨ j = 5 ∨ j = 6 ∨ j = 7 ∨ j = 8 ∨ j = 9 ∨ j = 10) with rfl | rfl | rfl | rfl | rfl | rfl | rfl | rfl | rfl | rfl | rfl <;> rfl
end Go.Proofs.YtekenpgagfmgkaaGreat
