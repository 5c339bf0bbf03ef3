/- Towards the statements of package alu (layer 2): contracts of Turned and Other, of the program and of the document, for every code; some answers that the document fixes. -/
import Derived.Test.YtmngficbohlnhaaRef
namespace Go.Proofs.Ytmngficbohlnhaa
open Go.ChangeShapes Go.WideShapes Go.ChangeAt Go.RowKit
set_option linter.unusedVariables false

def turnV (c : Int) : Int := if c = 1 then 1 else if c = 2 then 10 else if c = 3 then 11 else if c = 4 then 4 else if c = 5 then 5 else if c = 6 then 12 else if c = 7 then 13 else if c = 10 then 2 else if c = 11 then 3 else if c = 12 then 6 else if c = 13 then 7 else 0
def isturn (c : Int) : Bool := if c = 1 then true else if c = 2 then true else if c = 3 then true else if c = 4 then true else if c = 5 then true else if c = 6 then true else if c = 7 then true else if c = 10 then true else if c = 11 then true else if c = 12 then true else if c = 13 then true else false
def otherV (c : Int) : Int := if c = 1 then 5 else if c = 2 then 11 else if c = 3 then 10 else if c = 5 then 1 else if c = 6 then 13 else if c = 7 then 12 else if c = 10 then 3 else if c = 11 then 2 else if c = 12 then 7 else if c = 13 then 6 else 0
def isother (c : Int) : Bool := if c = 1 then true else if c = 2 then true else if c = 3 then true else if c = 5 then true else if c = 6 then true else if c = 7 then true else if c = 10 then true else if c = 11 then true else if c = 12 then true else if c = 13 then true else false

theorem turn1 (w : World) : Calls Try.prog 12 #[.int .u8 1] w fun e w' => e = .returned (.tuple #[.int .u8 (turnV 1), .bool (isturn 1)]) ∧ w' = w := by
  go_enter Try.func12, Try.ntmps12
  go_wp2
  go_ret2
  exact ⟨rfl, rfl⟩
theorem turn2 (w : World) : Calls Try.prog 12 #[.int .u8 2] w fun e w' => e = .returned (.tuple #[.int .u8 (turnV 2), .bool (isturn 2)]) ∧ w' = w := by
  go_enter Try.func12, Try.ntmps12
  go_wp2
  go_ret2
  exact ⟨rfl, rfl⟩
theorem turn3 (w : World) : Calls Try.prog 12 #[.int .u8 3] w fun e w' => e = .returned (.tuple #[.int .u8 (turnV 3), .bool (isturn 3)]) ∧ w' = w := by
  go_enter Try.func12, Try.ntmps12
  go_wp2
  go_ret2
  exact ⟨rfl, rfl⟩
theorem turn4 (w : World) : Calls Try.prog 12 #[.int .u8 4] w fun e w' => e = .returned (.tuple #[.int .u8 (turnV 4), .bool (isturn 4)]) ∧ w' = w := by
  go_enter Try.func12, Try.ntmps12
  go_wp2
  go_ret2
  exact ⟨rfl, rfl⟩
theorem turn5 (w : World) : Calls Try.prog 12 #[.int .u8 5] w fun e w' => e = .returned (.tuple #[.int .u8 (turnV 5), .bool (isturn 5)]) ∧ w' = w := by
  go_enter Try.func12, Try.ntmps12
  go_wp2
  go_ret2
  exact ⟨rfl, rfl⟩
theorem turn6 (w : World) : Calls Try.prog 12 #[.int .u8 6] w fun e w' => e = .returned (.tuple #[.int .u8 (turnV 6), .bool (isturn 6)]) ∧ w' = w := by
  go_enter Try.func12, Try.ntmps12
  go_wp2
  go_ret2
  exact ⟨rfl, rfl⟩
theorem turn7 (w : World) : Calls Try.prog 12 #[.int .u8 7] w fun e w' => e = .returned (.tuple #[.int .u8 (turnV 7), .bool (isturn 7)]) ∧ w' = w := by
  go_enter Try.func12, Try.ntmps12
  go_wp2
  go_ret2
  exact ⟨rfl, rfl⟩
theorem turn10 (w : World) : Calls Try.prog 12 #[.int .u8 10] w fun e w' => e = .returned (.tuple #[.int .u8 (turnV 10), .bool (isturn 10)]) ∧ w' = w := by
  go_enter Try.func12, Try.ntmps12
  go_wp2
  go_ret2
  exact ⟨rfl, rfl⟩
theorem turn11 (w : World) : Calls Try.prog 12 #[.int .u8 11] w fun e w' => e = .returned (.tuple #[.int .u8 (turnV 11), .bool (isturn 11)]) ∧ w' = w := by
  go_enter Try.func12, Try.ntmps12
  go_wp2
  go_ret2
  exact ⟨rfl, rfl⟩
theorem turn12 (w : World) : Calls Try.prog 12 #[.int .u8 12] w fun e w' => e = .returned (.tuple #[.int .u8 (turnV 12), .bool (isturn 12)]) ∧ w' = w := by
  go_enter Try.func12, Try.ntmps12
  go_wp2
  go_ret2
  exact ⟨rfl, rfl⟩
theorem turn13 (w : World) : Calls Try.prog 12 #[.int .u8 13] w fun e w' => e = .returned (.tuple #[.int .u8 (turnV 13), .bool (isturn 13)]) ∧ w' = w := by
  go_enter Try.func12, Try.ntmps12
  go_wp2
  go_ret2
  exact ⟨rfl, rfl⟩
theorem turn_no (c : Int) (hc : c ≠ 1 ∧ c ≠ 2 ∧ c ≠ 3 ∧ c ≠ 4 ∧ c ≠ 5 ∧ c ≠ 6 ∧ c ≠ 7 ∧ c ≠ 10 ∧ c ≠ 11 ∧ c ≠ 12 ∧ c ≠ 13) (w : World) : Calls Try.prog 12 #[.int .u8 c] w fun e w' => e = .returned (.tuple #[.int .u8 0, .bool false]) ∧ w' = w := by
  have n1 : (c == 1) = false := by simp; omega
  have n2 : (c == 2) = false := by simp; omega
  have n3 : (c == 3) = false := by simp; omega
  have n4 : (c == 4) = false := by simp; omega
  have n5 : (c == 5) = false := by simp; omega
  have n6 : (c == 6) = false := by simp; omega
  have n7 : (c == 7) = false := by simp; omega
  have n10 : (c == 10) = false := by simp; omega
  have n11 : (c == 11) = false := by simp; omega
  have n12 : (c == 12) = false := by simp; omega
  have n13 : (c == 13) = false := by simp; omega
  clear hc
  go_enter Try.func12, Try.ntmps12
  go_wp2
  go_ret2
  exact ⟨rfl, rfl⟩
theorem turn_any (c : Int) (w : World) : Calls Try.prog 12 #[.int .u8 c] w fun e w' => e = .returned (.tuple #[.int .u8 (turnV c), .bool (isturn c)]) ∧ w' = w := by
  by_cases h : c ≠ 1 ∧ c ≠ 2 ∧ c ≠ 3 ∧ c ≠ 4 ∧ c ≠ 5 ∧ c ≠ 6 ∧ c ≠ 7 ∧ c ≠ 10 ∧ c ≠ 11 ∧ c ≠ 12 ∧ c ≠ 13
  · rw [show turnV c = 0 by simp [turnV, h], show isturn c = false by simp [isturn, h]]
    exact turn_no c h w
  · rcases (by omega : c = 1 ∨ c = 2 ∨ c = 3 ∨ c = 4 ∨ c = 5 ∨ c = 6 ∨ c = 7 ∨ c = 10 ∨ c = 11 ∨ c = 12 ∨ c = 13) with rfl | rfl | rfl | rfl | rfl | rfl | rfl | rfl | rfl | rfl | rfl
    · exact turn1 w
    · exact turn2 w
    · exact turn3 w
    · exact turn4 w
    · exact turn5 w
    · exact turn6 w
    · exact turn7 w
    · exact turn10 w
    · exact turn11 w
    · exact turn12 w
    · exact turn13 w
theorem rturn1 (w : World) : Calls Try.prog 13 #[.int .u8 1] w fun e w' => e = .returned (.tuple #[.int .u8 (turnV 1), .bool (isturn 1)]) ∧ w' = w := by
  go_enter Try.func13, Try.ntmps13
  go_wp2
  go_ret2
  exact ⟨rfl, rfl⟩
theorem rturn2 (w : World) : Calls Try.prog 13 #[.int .u8 2] w fun e w' => e = .returned (.tuple #[.int .u8 (turnV 2), .bool (isturn 2)]) ∧ w' = w := by
  go_enter Try.func13, Try.ntmps13
  go_wp2
  go_ret2
  exact ⟨rfl, rfl⟩
theorem rturn3 (w : World) : Calls Try.prog 13 #[.int .u8 3] w fun e w' => e = .returned (.tuple #[.int .u8 (turnV 3), .bool (isturn 3)]) ∧ w' = w := by
  go_enter Try.func13, Try.ntmps13
  go_wp2
  go_ret2
  exact ⟨rfl, rfl⟩
theorem rturn4 (w : World) : Calls Try.prog 13 #[.int .u8 4] w fun e w' => e = .returned (.tuple #[.int .u8 (turnV 4), .bool (isturn 4)]) ∧ w' = w := by
  go_enter Try.func13, Try.ntmps13
  go_wp2
  go_ret2
  exact ⟨rfl, rfl⟩
theorem rturn5 (w : World) : Calls Try.prog 13 #[.int .u8 5] w fun e w' => e = .returned (.tuple #[.int .u8 (turnV 5), .bool (isturn 5)]) ∧ w' = w := by
  go_enter Try.func13, Try.ntmps13
  go_wp2
  go_ret2
  exact ⟨rfl, rfl⟩
theorem rturn6 (w : World) : Calls Try.prog 13 #[.int .u8 6] w fun e w' => e = .returned (.tuple #[.int .u8 (turnV 6), .bool (isturn 6)]) ∧ w' = w := by
  go_enter Try.func13, Try.ntmps13
  go_wp2
  go_ret2
  exact ⟨rfl, rfl⟩
theorem rturn7 (w : World) : Calls Try.prog 13 #[.int .u8 7] w fun e w' => e = .returned (.tuple #[.int .u8 (turnV 7), .bool (isturn 7)]) ∧ w' = w := by
  go_enter Try.func13, Try.ntmps13
  go_wp2
  go_ret2
  exact ⟨rfl, rfl⟩
theorem rturn10 (w : World) : Calls Try.prog 13 #[.int .u8 10] w fun e w' => e = .returned (.tuple #[.int .u8 (turnV 10), .bool (isturn 10)]) ∧ w' = w := by
  go_enter Try.func13, Try.ntmps13
  go_wp2
  go_ret2
  exact ⟨rfl, rfl⟩
theorem rturn11 (w : World) : Calls Try.prog 13 #[.int .u8 11] w fun e w' => e = .returned (.tuple #[.int .u8 (turnV 11), .bool (isturn 11)]) ∧ w' = w := by
  go_enter Try.func13, Try.ntmps13
  go_wp2
  go_ret2
  exact ⟨rfl, rfl⟩
theorem rturn12 (w : World) : Calls Try.prog 13 #[.int .u8 12] w fun e w' => e = .returned (.tuple #[.int .u8 (turnV 12), .bool (isturn 12)]) ∧ w' = w := by
  go_enter Try.func13, Try.ntmps13
  go_wp2
  go_ret2
  exact ⟨rfl, rfl⟩
theorem rturn13 (w : World) : Calls Try.prog 13 #[.int .u8 13] w fun e w' => e = .returned (.tuple #[.int .u8 (turnV 13), .bool (isturn 13)]) ∧ w' = w := by
  go_enter Try.func13, Try.ntmps13
  go_wp2
  go_ret2
  exact ⟨rfl, rfl⟩
theorem rturn_no (c : Int) (hc : c ≠ 1 ∧ c ≠ 2 ∧ c ≠ 3 ∧ c ≠ 4 ∧ c ≠ 5 ∧ c ≠ 6 ∧ c ≠ 7 ∧ c ≠ 10 ∧ c ≠ 11 ∧ c ≠ 12 ∧ c ≠ 13) (w : World) : Calls Try.prog 13 #[.int .u8 c] w fun e w' => e = .returned (.tuple #[.int .u8 0, .bool false]) ∧ w' = w := by
  have n1 : (c == 1) = false := by simp; omega
  have n2 : (c == 2) = false := by simp; omega
  have n3 : (c == 3) = false := by simp; omega
  have n4 : (c == 4) = false := by simp; omega
  have n5 : (c == 5) = false := by simp; omega
  have n6 : (c == 6) = false := by simp; omega
  have n7 : (c == 7) = false := by simp; omega
  have n10 : (c == 10) = false := by simp; omega
  have n11 : (c == 11) = false := by simp; omega
  have n12 : (c == 12) = false := by simp; omega
  have n13 : (c == 13) = false := by simp; omega
  clear hc
  go_enter Try.func13, Try.ntmps13
  go_wp2
  go_ret2
  exact ⟨rfl, rfl⟩
theorem rturn_any (c : Int) (w : World) : Calls Try.prog 13 #[.int .u8 c] w fun e w' => e = .returned (.tuple #[.int .u8 (turnV c), .bool (isturn c)]) ∧ w' = w := by
  by_cases h : c ≠ 1 ∧ c ≠ 2 ∧ c ≠ 3 ∧ c ≠ 4 ∧ c ≠ 5 ∧ c ≠ 6 ∧ c ≠ 7 ∧ c ≠ 10 ∧ c ≠ 11 ∧ c ≠ 12 ∧ c ≠ 13
  · rw [show turnV c = 0 by simp [turnV, h], show isturn c = false by simp [isturn, h]]
    exact rturn_no c h w
  · rcases (by omega : c = 1 ∨ c = 2 ∨ c = 3 ∨ c = 4 ∨ c = 5 ∨ c = 6 ∨ c = 7 ∨ c = 10 ∨ c = 11 ∨ c = 12 ∨ c = 13) with rfl | rfl | rfl | rfl | rfl | rfl | rfl | rfl | rfl | rfl | rfl
    · exact rturn1 w
    · exact rturn2 w
    · exact rturn3 w
    · exact rturn4 w
    · exact rturn5 w
    · exact rturn6 w
    · exact rturn7 w
    · exact rturn10 w
    · exact rturn11 w
    · exact rturn12 w
    · exact rturn13 w
theorem other1 (w : World) : Calls Try.prog 14 #[.int .u8 1] w fun e w' => e = .returned (.tuple #[.int .u8 (otherV 1), .bool (isother 1)]) ∧ w' = w := by
  go_enter Try.func14, Try.ntmps14
  go_wp2
  go_ret2
  exact ⟨rfl, rfl⟩
theorem other2 (w : World) : Calls Try.prog 14 #[.int .u8 2] w fun e w' => e = .returned (.tuple #[.int .u8 (otherV 2), .bool (isother 2)]) ∧ w' = w := by
  go_enter Try.func14, Try.ntmps14
  go_wp2
  go_ret2
  exact ⟨rfl, rfl⟩
theorem other3 (w : World) : Calls Try.prog 14 #[.int .u8 3] w fun e w' => e = .returned (.tuple #[.int .u8 (otherV 3), .bool (isother 3)]) ∧ w' = w := by
  go_enter Try.func14, Try.ntmps14
  go_wp2
  go_ret2
  exact ⟨rfl, rfl⟩
theorem other5 (w : World) : Calls Try.prog 14 #[.int .u8 5] w fun e w' => e = .returned (.tuple #[.int .u8 (otherV 5), .bool (isother 5)]) ∧ w' = w := by
  go_enter Try.func14, Try.ntmps14
  go_wp2
  go_ret2
  exact ⟨rfl, rfl⟩
theorem other6 (w : World) : Calls Try.prog 14 #[.int .u8 6] w fun e w' => e = .returned (.tuple #[.int .u8 (otherV 6), .bool (isother 6)]) ∧ w' = w := by
  go_enter Try.func14, Try.ntmps14
  go_wp2
  go_ret2
  exact ⟨rfl, rfl⟩
theorem other7 (w : World) : Calls Try.prog 14 #[.int .u8 7] w fun e w' => e = .returned (.tuple #[.int .u8 (otherV 7), .bool (isother 7)]) ∧ w' = w := by
  go_enter Try.func14, Try.ntmps14
  go_wp2
  go_ret2
  exact ⟨rfl, rfl⟩
theorem other10 (w : World) : Calls Try.prog 14 #[.int .u8 10] w fun e w' => e = .returned (.tuple #[.int .u8 (otherV 10), .bool (isother 10)]) ∧ w' = w := by
  go_enter Try.func14, Try.ntmps14
  go_wp2
  go_ret2
  exact ⟨rfl, rfl⟩
theorem other11 (w : World) : Calls Try.prog 14 #[.int .u8 11] w fun e w' => e = .returned (.tuple #[.int .u8 (otherV 11), .bool (isother 11)]) ∧ w' = w := by
  go_enter Try.func14, Try.ntmps14
  go_wp2
  go_ret2
  exact ⟨rfl, rfl⟩
theorem other12 (w : World) : Calls Try.prog 14 #[.int .u8 12] w fun e w' => e = .returned (.tuple #[.int .u8 (otherV 12), .bool (isother 12)]) ∧ w' = w := by
  go_enter Try.func14, Try.ntmps14
  go_wp2
  go_ret2
  exact ⟨rfl, rfl⟩
theorem other13 (w : World) : Calls Try.prog 14 #[.int .u8 13] w fun e w' => e = .returned (.tuple #[.int .u8 (otherV 13), .bool (isother 13)]) ∧ w' = w := by
  go_enter Try.func14, Try.ntmps14
  go_wp2
  go_ret2
  exact ⟨rfl, rfl⟩
theorem other_no (c : Int) (hc : c ≠ 1 ∧ c ≠ 2 ∧ c ≠ 3 ∧ c ≠ 5 ∧ c ≠ 6 ∧ c ≠ 7 ∧ c ≠ 10 ∧ c ≠ 11 ∧ c ≠ 12 ∧ c ≠ 13) (w : World) : Calls Try.prog 14 #[.int .u8 c] w fun e w' => e = .returned (.tuple #[.int .u8 0, .bool false]) ∧ w' = w := by
  have n1 : (c == 1) = false := by simp; omega
  have n2 : (c == 2) = false := by simp; omega
  have n3 : (c == 3) = false := by simp; omega
  have n5 : (c == 5) = false := by simp; omega
  have n6 : (c == 6) = false := by simp; omega
  have n7 : (c == 7) = false := by simp; omega
  have n10 : (c == 10) = false := by simp; omega
  have n11 : (c == 11) = false := by simp; omega
  have n12 : (c == 12) = false := by simp; omega
  have n13 : (c == 13) = false := by simp; omega
  clear hc
  go_enter Try.func14, Try.ntmps14
  go_wp2
  go_ret2
  exact ⟨rfl, rfl⟩
theorem other_any (c : Int) (w : World) : Calls Try.prog 14 #[.int .u8 c] w fun e w' => e = .returned (.tuple #[.int .u8 (otherV c), .bool (isother c)]) ∧ w' = w := by
  by_cases h : c ≠ 1 ∧ c ≠ 2 ∧ c ≠ 3 ∧ c ≠ 5 ∧ c ≠ 6 ∧ c ≠ 7 ∧ c ≠ 10 ∧ c ≠ 11 ∧ c ≠ 12 ∧ c ≠ 13
  · rw [show otherV c = 0 by simp [otherV, h], show isother c = false by simp [isother, h]]
    exact other_no c h w
  · rcases (by omega : c = 1 ∨ c = 2 ∨ c = 3 ∨ c = 5 ∨ c = 6 ∨ c = 7 ∨ c = 10 ∨ c = 11 ∨ c = 12 ∨ c = 13) with rfl | rfl | rfl | rfl | rfl | rfl | rfl | rfl | rfl | rfl
    · exact other1 w
    · exact other2 w
    · exact other3 w
    · exact other5 w
    · exact other6 w
    · exact other7 w
    · exact other10 w
    · exact other11 w
    · exact other12 w
    · exact other13 w
theorem rother1 (w : World) : Calls Try.prog 15 #[.int .u8 1] w fun e w' => e = .returned (.tuple #[.int .u8 (otherV 1), .bool (isother 1)]) ∧ w' = w := by
  go_enter Try.func15, Try.ntmps15
  go_wp2
  go_ret2
  exact ⟨rfl, rfl⟩
theorem rother2 (w : World) : Calls Try.prog 15 #[.int .u8 2] w fun e w' => e = .returned (.tuple #[.int .u8 (otherV 2), .bool (isother 2)]) ∧ w' = w := by
  go_enter Try.func15, Try.ntmps15
  go_wp2
  go_ret2
  exact ⟨rfl, rfl⟩
theorem rother3 (w : World) : Calls Try.prog 15 #[.int .u8 3] w fun e w' => e = .returned (.tuple #[.int .u8 (otherV 3), .bool (isother 3)]) ∧ w' = w := by
  go_enter Try.func15, Try.ntmps15
  go_wp2
  go_ret2
  exact ⟨rfl, rfl⟩
theorem rother5 (w : World) : Calls Try.prog 15 #[.int .u8 5] w fun e w' => e = .returned (.tuple #[.int .u8 (otherV 5), .bool (isother 5)]) ∧ w' = w := by
  go_enter Try.func15, Try.ntmps15
  go_wp2
  go_ret2
  exact ⟨rfl, rfl⟩
theorem rother6 (w : World) : Calls Try.prog 15 #[.int .u8 6] w fun e w' => e = .returned (.tuple #[.int .u8 (otherV 6), .bool (isother 6)]) ∧ w' = w := by
  go_enter Try.func15, Try.ntmps15
  go_wp2
  go_ret2
  exact ⟨rfl, rfl⟩
theorem rother7 (w : World) : Calls Try.prog 15 #[.int .u8 7] w fun e w' => e = .returned (.tuple #[.int .u8 (otherV 7), .bool (isother 7)]) ∧ w' = w := by
  go_enter Try.func15, Try.ntmps15
  go_wp2
  go_ret2
  exact ⟨rfl, rfl⟩
theorem rother10 (w : World) : Calls Try.prog 15 #[.int .u8 10] w fun e w' => e = .returned (.tuple #[.int .u8 (otherV 10), .bool (isother 10)]) ∧ w' = w := by
  go_enter Try.func15, Try.ntmps15
  go_wp2
  go_ret2
  exact ⟨rfl, rfl⟩
theorem rother11 (w : World) : Calls Try.prog 15 #[.int .u8 11] w fun e w' => e = .returned (.tuple #[.int .u8 (otherV 11), .bool (isother 11)]) ∧ w' = w := by
  go_enter Try.func15, Try.ntmps15
  go_wp2
  go_ret2
  exact ⟨rfl, rfl⟩
theorem rother12 (w : World) : Calls Try.prog 15 #[.int .u8 12] w fun e w' => e = .returned (.tuple #[.int .u8 (otherV 12), .bool (isother 12)]) ∧ w' = w := by
  go_enter Try.func15, Try.ntmps15
  go_wp2
  go_ret2
  exact ⟨rfl, rfl⟩
theorem rother13 (w : World) : Calls Try.prog 15 #[.int .u8 13] w fun e w' => e = .returned (.tuple #[.int .u8 (otherV 13), .bool (isother 13)]) ∧ w' = w := by
  go_enter Try.func15, Try.ntmps15
  go_wp2
  go_ret2
  exact ⟨rfl, rfl⟩
theorem rother_no (c : Int) (hc : c ≠ 1 ∧ c ≠ 2 ∧ c ≠ 3 ∧ c ≠ 5 ∧ c ≠ 6 ∧ c ≠ 7 ∧ c ≠ 10 ∧ c ≠ 11 ∧ c ≠ 12 ∧ c ≠ 13) (w : World) : Calls Try.prog 15 #[.int .u8 c] w fun e w' => e = .returned (.tuple #[.int .u8 0, .bool false]) ∧ w' = w := by
  have n1 : (c == 1) = false := by simp; omega
  have n2 : (c == 2) = false := by simp; omega
  have n3 : (c == 3) = false := by simp; omega
  have n5 : (c == 5) = false := by simp; omega
  have n6 : (c == 6) = false := by simp; omega
  have n7 : (c == 7) = false := by simp; omega
  have n10 : (c == 10) = false := by simp; omega
  have n11 : (c == 11) = false := by simp; omega
  have n12 : (c == 12) = false := by simp; omega
  have n13 : (c == 13) = false := by simp; omega
  clear hc
  go_enter Try.func15, Try.ntmps15
  go_wp2
  go_ret2
  exact ⟨rfl, rfl⟩
theorem rother_any (c : Int) (w : World) : Calls Try.prog 15 #[.int .u8 c] w fun e w' => e = .returned (.tuple #[.int .u8 (otherV c), .bool (isother c)]) ∧ w' = w := by
  by_cases h : c ≠ 1 ∧ c ≠ 2 ∧ c ≠ 3 ∧ c ≠ 5 ∧ c ≠ 6 ∧ c ≠ 7 ∧ c ≠ 10 ∧ c ≠ 11 ∧ c ≠ 12 ∧ c ≠ 13
  · rw [show otherV c = 0 by simp [otherV, h], show isother c = false by simp [isother, h]]
    exact rother_no c h w
  · rcases (by omega : c = 1 ∨ c = 2 ∨ c = 3 ∨ c = 5 ∨ c = 6 ∨ c = 7 ∨ c = 10 ∨ c = 11 ∨ c = 12 ∨ c = 13) with rfl | rfl | rfl | rfl | rfl | rfl | rfl | rfl | rfl | rfl
    · exact rother1 w
    · exact rother2 w
    · exact rother3 w
    · exact rother5 w
    · exact rother6 w
    · exact rother7 w
    · exact rother10 w
    · exact rother11 w
    · exact rother12 w
    · exact rother13 w

theorem bd_u64 {a : Int} (h : (Lit.int .u64 a).wf = true) : 0 ≤ a ∧ a ≤ 18446744073709551615 := by
  simpa [Lit.wf, IntKind.min, IntKind.max, IntKind.signed, IntKind.bits] using h
theorem bd_u16 {a : Int} (h : (Lit.int .u16 a).wf = true) : 0 ≤ a ∧ a ≤ 65535 := by
  simpa [Lit.wf, IntKind.min, IntKind.max, IntKind.signed, IntKind.bits] using h
theorem bd_u8 {a : Int} (h : (Lit.int .u8 a).wf = true) : 0 ≤ a ∧ a ≤ 255 := by
  simpa [Lit.wf, IntKind.min, IntKind.max, IntKind.signed, IntKind.bits] using h

set_option maxRecDepth 100000 in
set_option maxHeartbeats 4000000 in
theorem alive_any (w : World) : Calls Try.prog 16 #[] w fun e w' => e = .returned (.bool true) ∧ Gr w w' := by
  have HG : Gr w w := Gr.refl w
  have e1 : doesV true 3 7 0 = 0 := by decide +kernel
  have e2 : doesV true 9 7 0 = 7 := by decide +kernel
  have e3 : doesV false 0 4294967295 2 = 1 := by decide +kernel
  have e4 : doesV false 12 2147483648 31 = 4294967295 := by decide +kernel
  have e5 : asksV true 12 18446744073709551615 0 = true := by decide +kernel
  have e6 : errD 3 = 0 := rfl
  have e7 : errD 9 = 0 := rfl
  have e8 : errD 0 = 0 := rfl
  have e9 : errD 12 = 0 := rfl
  have e10 : errA 12 = 0 := rfl
  have e11 : errD 13 = 20 := rfl
  have e12 : errA 8 = 20 := rfl
  go_enter Try.func16, Try.ntmps16
  go_wp2_with (first
    | (go_at_call 8; refine (does_any _ _ _ _ (by omega) (by omega) (by omega) _).mono ?_; rintro e w' ⟨rfl, hg⟩; replace HG := HG.trans hg; clear hg)
    | (go_at_call 10; refine (asks_any _ _ _ _ (by omega) (by omega) (by omega) _).mono ?_; rintro e w' ⟨rfl, hg⟩; replace HG := HG.trans hg; clear hg))
  go_ret
  exact ⟨rfl, HG⟩
end Go.Proofs.Ytmngficbohlnhaa
