/- Towards the statements of package word (layer 1), of what of it this program has: what counts as a size, and why there is no number of that size at that place: contracts of isSize, May and fits, for every argument. Towards the statements of package word (layer 1), of what of it this program has: eight bytes as one number, one number as eight bytes: contracts of number and bytesOf, for every argument. Towards the statements of package word (layer 1), of what of it this program has: the lowest bytes of a number: contracts of Of, the program's and the document's, for every number and every size. Towards the statements of package word (layer 1), of what of it this program has: the number that stands in a text: contract of Get, for every text, place and size. Towards the statements of package word (layer 1), of what of it this program has: the document's Get, and Low and Sign of the program, for every argument. Towards the statements of package word (layer 1), of what of it this program has: a text in which a number is set: contracts of Set, the program's and the document's, for every argument. Towards the statements of package word (layer 1), of what of it this program has: the document's Low and Sign, for every argument. -/
import Derived.Test.YtcbcijibgpaipaaGreatRows
import Derived.WalkKit
import Derived.WalkSpells
import Derived.ProofKit
import Derived.OpenShut
import Derived.ShutString
import Derived.BigQuiet
import Derived.Deep.QuietTactic
import Derived.Handy
import Derived.PlainAid
import Derived.Laws.BitsAllLaws
import Derived.Laws.BytesArg
import Derived.Lib.BufferWrite
import Derived.Deep.WholeRow
import Derived.Deep.RegionWith
section
namespace Go.Proofs.YtcbcijibgpaipaaGreat.Wd
open Go.ChangeShapes Go.WideShapes Go.ChangeAt Go.RowKit
set_option linter.unusedVariables false

def isz (n : Int) : Bool := n == 1 || n == 2 || n == 4 || n == 8

theorem isz_false {n : Int} (h : isz n = false) : ((n == 1) = false ∧ (n == 2) = false) ∧ ((n == 4) = false ∧ (n == 8) = false) := by
  simp only [isz, Bool.or_eq_false_iff] at h
  exact ⟨h.1.1, h.1.2, h.2⟩
theorem isz_true {n : Int} (h : isz n = true) : n = 1 ∨ n = 2 ∨ n = 4 ∨ n = 8 := by
  simp only [isz, Bool.or_eq_true, beq_iff_eq] at h
  omega

set_option maxHeartbeats 400000 in
theorem size_yes (n : Int) (h : isz n = true) (w : World) : Calls Tryz.prog 195 #[.int .i64 n] w fun e w' => e = .returned (.bool true) ∧ w' = w := by
  rcases isz_true h with rfl | rfl | rfl | rfl
  all_goals
    clear h
    go_enter Tryz.func195, Tryz.ntmps195
    go_wp2
    go_ret
    exact ⟨rfl, rfl⟩
set_option maxHeartbeats 400000 in
theorem size_no (n : Int) (h : isz n = false) (w : World) : Calls Tryz.prog 195 #[.int .i64 n] w fun e w' => e = .returned (.bool false) ∧ w' = w := by
  obtain ⟨⟨h1, h2⟩, h4, h8⟩ := isz_false h
  clear h
  go_enter Tryz.func195, Tryz.ntmps195
  go_wp2
  go_ret
  exact ⟨rfl, rfl⟩
end Go.Proofs.YtcbcijibgpaipaaGreat.Wd
end
section
namespace Go.Proofs.YtcbcijibgpaipaaGreat.Wd
open Go.ChangeShapes Go.WideShapes Go.ChangeAt Go.RowKit
open Go.PlainAid (bt get_bt bt_nonneg bt_le bt_end)
set_option linter.unusedVariables false

structure Gr (w w' : World) : Prop where
  below : Below w.heap.size w w'
  grown : Grown w w'
theorem Gr.refl (w : World) : Gr w w := ⟨Below.refl _ _, Grown.refl _⟩
theorem Gr.trans {a b c : World} (h : Gr a b) (k : Gr b c) : Gr a c :=
  ⟨h.below.trans (k.below.mono h.below.size), ⟨World.keptBut_trans h.grown.1 k.grown.1, fun x => (k.grown.2.1 x).trans (h.grown.2.1 x), Nat.le_trans h.grown.2.2 k.grown.2.2⟩⟩

theorem ret_int {k : IntKind} {a b : Int} (h : a = b) : Ending.returned (.int k a) = .returned (.int k b) := by rw [h]

end Go.Proofs.YtcbcijibgpaipaaGreat.Wd
end
section
namespace Go.Proofs.YtcbcijibgpaipaaGreat.Wd
open Go.ChangeShapes Go.WideShapes Go.ChangeAt Go.RowKit
open Go.PlainAid (bt get_bt bt_nonneg bt_le bt_end)
set_option linter.unusedVariables false

end Go.Proofs.YtcbcijibgpaipaaGreat.Wd
end
section
namespace Go.Proofs.YtcbcijibgpaipaaGreat.Wd
open Go.ChangeShapes Go.WideShapes Go.ChangeAt Go.RowKit
open Go.PlainAid (bt get_bt bt_nonneg bt_le bt_end)
set_option linter.unusedVariables false

end Go.Proofs.YtcbcijibgpaipaaGreat.Wd
end
section
namespace Go.Proofs.YtcbcijibgpaipaaGreat.Wd
open Go.ChangeShapes Go.WideShapes Go.ChangeAt Go.RowKit
open Go.PlainAid (bt get_bt bt_nonneg bt_le bt_end)
set_option linter.unusedVariables false

def lowV (x n : Int) : Int := if isz n then x % 256 ^ n.toNat else 0
def signV (x n : Int) : Int := if isz n then (if x % 256 ^ n.toNat * 2 < 256 ^ n.toNat then x % 256 ^ n.toNat else x % 256 ^ n.toNat - 256 ^ n.toNat) else 0

theorem lowV1 (x : Int) : lowV x 1 = x % 256 := by simp [lowV, isz]
theorem lowV2 (x : Int) : lowV x 2 = x % 65536 := by simp [lowV, isz]
theorem lowV4 (x : Int) : lowV x 4 = x % 4294967296 := by simp [lowV, isz]
theorem lowV8 (x : Int) : lowV x 8 = x % 18446744073709551616 := by simp [lowV, isz]
theorem lowV0 {n : Int} (x : Int) (h : isz n = false) : lowV x n = 0 := by simp [lowV, h]
theorem signV1 (x : Int) : signV x 1 = if x % 256 < 128 then x % 256 else x % 256 - 256 := by
  rw [signV, if_pos (by decide)]; simp only [Int.reduceToNat, Int.reducePow]; split <;> split <;> omega
theorem signV2 (x : Int) : signV x 2 = if x % 65536 < 32768 then x % 65536 else x % 65536 - 65536 := by
  rw [signV, if_pos (by decide)]; simp only [Int.reduceToNat, Int.reducePow]; split <;> split <;> omega
theorem signV4 (x : Int) : signV x 4 = if x % 4294967296 < 2147483648 then x % 4294967296 else x % 4294967296 - 4294967296 := by
  rw [signV, if_pos (by decide)]; simp only [Int.reduceToNat, Int.reducePow]; split <;> split <;> omega
theorem signV8 (x : Int) : signV x 8 = if x % 18446744073709551616 < 9223372036854775808 then x % 18446744073709551616 else x % 18446744073709551616 - 18446744073709551616 := by
  rw [signV, if_pos (by decide)]; simp only [Int.reduceToNat, Int.reducePow]; split <;> split <;> omega
theorem signV0 {n : Int} (x : Int) (h : isz n = false) : signV x n = 0 := by simp [signV, h]

set_option maxHeartbeats 1000000 in
theorem low_any (x n : Int) (h0 : 0 ≤ x) (h1 : x ≤ 18446744073709551615) (w : World) : Calls Tryz.prog 90 #[.int .u64 x, .int .i64 n] w fun e w' => e = .returned (.int .u64 (lowV x n)) ∧ w' = w := by
  cases h : isz n
  · go_enter Tryz.func90, Tryz.ntmps90
    go_wp2_with (go_at_call 195; refine (size_no _ (by assumption) _).mono ?_; rintro e w' ⟨rfl, rfl⟩)
    go_ret
    exact ⟨ret_int (lowV0 x h).symm, rfl⟩
  · have hh := isz_true h
    clear h
    rcases hh with rfl | rfl | rfl | rfl
    all_goals
      go_enter Tryz.func90, Tryz.ntmps90
      go_wp2_with (go_at_call 195; refine (size_yes _ (by decide) _).mono ?_; rintro e w' ⟨rfl, rfl⟩)
      go_ret
      refine ⟨ret_int ?_, rfl⟩
    · rw [lowV1, IntKind.wrap_u64]; omega
    · rw [lowV2, IntKind.wrap_u64]; omega
    · rw [lowV4, IntKind.wrap_u64]; omega
    · rw [lowV8]; omega

set_option maxHeartbeats 1000000 in
theorem sign_any (x n : Int) (h0 : 0 ≤ x) (h1 : x ≤ 18446744073709551615) (w : World) : Calls Tryz.prog 180 #[.int .u64 x, .int .i64 n] w fun e w' => e = .returned (.int .i64 (signV x n)) ∧ w' = w := by
  cases h : isz n
  · go_enter Tryz.func180, Tryz.ntmps180
    go_wp2_with (go_at_call 195; refine (size_no _ (by assumption) _).mono ?_; rintro e w' ⟨rfl, rfl⟩)
    go_ret
    exact ⟨ret_int (signV0 x h).symm, rfl⟩
  · have hh := isz_true h
    clear h
    rcases hh with rfl | rfl | rfl | rfl
    all_goals
      go_enter Tryz.func180, Tryz.ntmps180
      go_wp2_with (go_at_call 195; refine (size_yes _ (by decide) _).mono ?_; rintro e w' ⟨rfl, rfl⟩)
      go_ret
      refine ⟨ret_int ?_, rfl⟩
    · rw [signV1]; (try simp only [wrap64]); (try simp only [IntKind.wrap_u64]); split <;> omega
    · rw [signV2]; (try simp only [wrap64]); (try simp only [IntKind.wrap_u64]); split <;> omega
    · rw [signV4]; (try simp only [wrap64]); (try simp only [IntKind.wrap_u64]); split <;> omega
    · rw [signV8]; (try simp only [wrap64]); (try simp only [IntKind.wrap_u64]); split <;> omega
end Go.Proofs.YtcbcijibgpaipaaGreat.Wd
end
section
namespace Go.Proofs.YtcbcijibgpaipaaGreat.Wd
open Go.ChangeShapes Go.WideShapes Go.ChangeAt Go.RowKit
open Go.PlainAid (bt get_bt bt_nonneg bt_le bt_end)
set_option linter.unusedVariables false

end Go.Proofs.YtcbcijibgpaipaaGreat.Wd
end
section
namespace Go.Proofs.YtcbcijibgpaipaaGreat.Wd
open Go.ChangeShapes Go.WideShapes Go.ChangeAt Go.RowKit
open Go.PlainAid (bt get_bt bt_nonneg bt_le bt_end)
set_option linter.unusedVariables false

end Go.Proofs.YtcbcijibgpaipaaGreat.Wd
end
