/- Towards the statements of package word (layer 1): the examples that the statements ask for come out true, whatever world they are asked in. -/
import Derived.Test.YteaaocinkpipaaaSign
namespace Go.Proofs.Yteaaocinkpipaaa
open Go.ChangeShapes Go.WideShapes Go.ChangeAt Go.RowKit
open Go.PlainAid (bt get_bt bt_nonneg bt_le bt_end)
set_option linter.unusedVariables false

set_option maxRecDepth 100000 in
set_option maxHeartbeats 2000000 in
theorem alive_any (w : World) : Calls Try.prog 8 #[] w fun e w' => e = .returned (.bool true) ∧ Gr w w' := by
  have v1 : ofB 258 2 = ⟨#[2, 1]⟩ := by decide +kernel
  have z1 : (⟨#[2, 1]⟩ : ByteArray).size ≤ maxLen := by decide +kernel
  have z2 : (⟨#[97, 98, 99, 100]⟩ : ByteArray).size ≤ maxLen := by decide +kernel
  have v2 : getV ⟨#[2, 1]⟩ 0 2 = 258 := by decide +kernel
  have v3 : errOf 2 0 2 = 0 := by decide +kernel
  have v4 : errOf 2 1 2 = 10 := by decide +kernel
  have v5 : errOf 2 0 3 = 2 := by decide +kernel
  have v6 : setB ⟨#[97, 98, 99, 100]⟩ 1 24930 2 = ⟨#[97, 98, 97, 100]⟩ := by decide +kernel
  have v7 : errOf 4 1 2 = 0 := by decide +kernel
  have v8 : signV 255 1 = -1 := by decide +kernel
  have v9 : signV 128 2 = 128 := by decide +kernel
  have v10 : lowV 258 1 = 2 := by decide +kernel
  have v11 : signV 9223372036854775808 8 = -9223372036854775808 := by decide +kernel
  have HG : Gr w w := Gr.refl w
  go_enter Try.func8, Try.ntmps8
  go_wp2_with (first
    | (go_at_call 13; refine (of_any _ (by decide) (by decide) _ _).mono ?_; rw [v1]; rintro e w' ⟨rfl, hg⟩; replace HG := HG.trans hg; clear hg)
    | (go_at_call 9; refine (get_any _ _ _ z1 (by decide) _).mono ?_; rintro e w' ⟨rfl, hg⟩; replace HG := HG.trans hg; clear hg)
    | (go_at_call 11; refine (set_any _ _ _ _ (by decide) (by decide) z2 (by decide) _).mono ?_; rintro e w' ⟨rfl, hg⟩; replace HG := HG.trans hg; clear hg)
    | (go_at_call 17; refine (sign_any _ _ (by decide) (by decide) _).mono ?_; rintro e w' ⟨rfl, rfl⟩)
    | (go_at_call 15; refine (low_any _ _ (by decide) (by decide) _).mono ?_; rintro e w' ⟨rfl, rfl⟩))
  go_ret
  exact ⟨rfl, HG⟩

theorem bd_i64 {a : Int} (h : (Lit.int .i64 a).wf = true) : -9223372036854775808 ≤ a ∧ a ≤ 9223372036854775807 := by
  simpa [Lit.wf, IntKind.min, IntKind.max, IntKind.signed, IntKind.bits] using h
theorem bd_u64 {a : Int} (h : (Lit.int .u64 a).wf = true) : 0 ≤ a ∧ a ≤ 18446744073709551615 := by
  simpa [Lit.wf, IntKind.min, IntKind.max, IntKind.signed, IntKind.bits] using h

end Go.Proofs.Yteaaocinkpipaaa
