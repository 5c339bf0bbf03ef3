/- Towards the statements of package name (layer 9): what a law's call leaves; bounds; which of two texts is less. -/
import Derived.Test.YtkndkniimlckeaaNY
import Derived.WalkKit
import Derived.ProofKit
import Derived.OpenShut
import Derived.ShutString
namespace Go.Proofs.Ytkndkniimlckeaa
open Go.ChangeShapes Go.WideShapes Go.ChangeAt Go.RowKit
set_option linter.unusedVariables false
set_option linter.unusedSimpArgs false
/-- A call whose arguments lie in no memory, and that leaves what was there as it was. -/
theorem post_nil {H : Type} {enc : TypeId × Value → H} {P : Program} {f : Func} {s : ChangeSpec} {apart fresh handsOn again : Bool} {W W' : World} {args : Array Value} {v : Value} {ds gs : List (DataW H)}
    (hW : DataW.Whole enc P f.params.toList s.vars apart W args.toList ds gs [])
    (hres : ∀ (b : Nat) (sp : Nat → Bool) (hd : Bool), DataW.TrodAll enc P W' b sp hd f.resultTypes.toList (v.resultList f.resultTypes.size) (s.fn H (ds ++ gs)).results [])
    (hargs : ∀ sp : Nat → Bool, DataW.TrodAll enc P W' 0 sp true f.params.toList args.toList (s.fn H (ds ++ gs)).args [])
    (hvars : ∀ sp : Nat → Bool, DataW.TrodVars enc P W' sp s.vars (s.fn H (ds ++ gs)).vars [])
    (hb : Below W.heap.size W W')
    (hok : ∀ (j : Nat) (t : TypeId) (r : Value), f.resultTypes[j]? = some t → (v.resultList f.resultTypes.size)[j]? = some r → Value.okWide P W' .any 0 t r) :
    s.post enc P f apart fresh handsOn again W args v W' := by
  refine ⟨ds, gs, [], [], [], [], hW, hres _ _ _, hargs _, hvars _, hb.frame _, fun _ => ?_⟩
  refine ⟨hok, _, _, [], ⟨[], [], trodAll_append (hargs (fun _ => true)) (hres _ _ _), hvars (fun _ => true), rfl, ?_, ?_⟩, ?_⟩
  · intro b off hp
    cases hp
  · intro _
    simp
  · intro p hp _
    cases hp
theorem bd_u8 {m : Int} (h : (Lit.int .u8 m).wf = true) : 0 ≤ m ∧ m ≤ 255 := by
  simpa [Lit.wf, IntKind.min, IntKind.max, IntKind.signed, IntKind.bits] using h
theorem bd_i8 {m : Int} (h : (Lit.int .i8 m).wf = true) : -128 ≤ m ∧ m ≤ 127 := by
  simpa [Lit.wf, IntKind.min, IntKind.max, IntKind.signed, IntKind.bits] using h
theorem bd_u16 {m : Int} (h : (Lit.int .u16 m).wf = true) : 0 ≤ m ∧ m ≤ 65535 := by
  simpa [Lit.wf, IntKind.min, IntKind.max, IntKind.signed, IntKind.bits] using h
theorem bd_i32 {m : Int} (h : (Lit.int .i32 m).wf = true) : -2147483648 ≤ m ∧ m ≤ 2147483647 := by
  simpa [Lit.wf, IntKind.min, IntKind.max, IntKind.signed, IntKind.bits] using h
theorem less_list : ∀ (a b : List UInt8), Op.bytesLess a b = decide (cmpN (a.map UInt8.toNat) (b.map UInt8.toNat) = -1)
  | [], [] => rfl
  | [], _ :: _ => rfl
  | _ :: _, [] => rfl
  | x :: a, y :: b => by
    rw [Op.bytesLess, List.map_cons, List.map_cons, cmpN]
    by_cases h1 : x.toNat < y.toNat
    · rw [if_pos h1]; simp [UInt8.lt_iff_toNat_lt, h1]
    · rw [if_neg h1]
      by_cases h2 : y.toNat < x.toNat
      · rw [if_pos h2]
        have hne : x ≠ y := fun e => by rw [e] at h2; omega
        simp [UInt8.lt_iff_toNat_lt, h1, hne]
      · rw [if_neg h2, ← less_list a b]
        have he : x = y := UInt8.toNat_inj.1 (by omega)
        simp [he]
theorem less_eq (a b : ByteArray) : Op.bytesLess a.toList b.toList = decide (cmpN (bt a) (bt b) = -1) := by
  rw [ByteArray.toList_eq, ByteArray.toList_eq, less_list]; rfl
theorem text_nil (a : ByteArray) : a.toList = [] ↔ bt a = [] := by
  rw [ByteArray.toList_eq]; simp [bt]
theorem cmpM_neg (a b : List Nat) : cmpM b a = - cmpM a b := by
  unfold cmpM
  cases h1 : (ch a).isSome <;> cases h2 : (ch b).isSome <;> simp [cmpN_neg a b]
theorem cmpM_three (a b : List Nat) : cmpM a b = -1 ∨ cmpM a b = 0 ∨ cmpM a b = 1 := by
  unfold cmpM
  have := cmpN_three a b
  cases h1 : (ch a).isSome <;> cases h2 : (ch b).isSome <;> simp [this]
theorem cmpM_zero (a b : List Nat) : cmpM a b = 0 ↔ a = b := by
  unfold cmpM
  have := cmpN_zero a b
  cases h1 : (ch a).isSome <;> cases h2 : (ch b).isSome <;> simp [this]
  · rintro rfl; rw [h1] at h2; cases h2
  · rintro rfl; rw [h1] at h2; cases h2
theorem cmpM_trans (a b c : List Nat) (h1 : cmpM a b ≤ 0) (h2 : cmpM b c ≤ 0) : cmpM a c ≤ 0 := by
  have ht := cmpN_trans a b c
  unfold cmpM at *
  cases g1 : (ch a).isSome <;> cases g2 : (ch b).isSome <;> cases g3 : (ch c).isSome <;> simp [g1, g2, g3] at h1 h2 ⊢
  · exact ht h1 h2
  · exact ht h1 h2
theorem cmpM_both (a b : List Nat) (h1 : (ch a).isSome = true) (h2 : (ch b).isSome = true) : cmpM a b = cmpN a b := by
  unfold cmpM; rw [h1, h2]; rfl
theorem cmpM_pre (a b : List Nat) (h1 : (ch a).isSome = true) (h : b ≠ []) : cmpM a (a ++ b) = -1 := by
  unfold cmpM; rw [h1]
  cases (ch (a ++ b)).isSome with
  | true => exact cmpN_pre a b h
  | false => rfl
end Go.Proofs.Ytkndkniimlckeaa
