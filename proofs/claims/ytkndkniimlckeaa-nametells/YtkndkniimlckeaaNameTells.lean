/- NameTells, for every text: which texts are names, how many runes they have, which names stand in a text. No conditions. -/
import Derived.Test.YtkndkniimlckeaaNZW
import Derived.WalkKit
import Derived.ProofKit
import Derived.OpenShut
import Derived.ShutString
namespace Go.Proofs.Ytkndkniimlckeaa.nameTells
open Go.ChangeShapes Go.WideShapes Go.ChangeAt Go.RowKit
open Go.ChangeMaps (open_string shut_string)
set_option linter.unusedVariables false
set_option linter.unusedSimpArgs false

theorem own : ownKnob Try.prog.godebug = none := by kernel_rfl

set_option maxRecDepth 100000 in
set_option maxHeartbeats 16000000 in
theorem walk (a0 : ByteArray) (w0 : a0.size ≤ maxLen) (w : World) :
    Calls Try.prog 3 #[.string a0] w fun e w' => e = .returned (.bool true) ∧ Below w.heap.size w w' := by
  have hal := fun W => alive_any W
  by_cases h0 : 4096 < a0.size
  · have d0 : decide ((4096 : Int) < a0.size) = true := by simp; omega
    go_enter Try.func3, Try.ntmps3
    go_wp2_with (first | (go_at_call 9; refine (hal _).mono ?_; rintro e w' ⟨rfl, hb⟩))
    go_returns
    exact ⟨rfl, hb⟩
  have d0 : decide ((4096 : Int) < a0.size) = false := by simp; omega
  have k10 := fun W => may_any a0 (by omega) W
  have k11 := fun W => rmay_any a0 (by omega) W
  have k12 := fun W => runes_any a0 (by omega) W
  have k13 := fun W => rrunes_any a0 (by omega) W
  have k15 := fun W => words_any a0 (by omega) W
  have k16 := fun W => rwords_any a0 (by omega) W
  have hcnt : (wordsM (bt a0)).length ≤ 1048576 := by
    have h6 := words_sum (bt_lt a0)
    have h7 := sumW_count (wordsM (bt a0))
    rw [bt_len] at h6
    omega
  have k14 : ∀ (u v : Value) (X Y : List ByteArray) W, SRow W u X → SRow W v Y → X.map bt = wordsM (bt a0) → Y.map bt = wordsM (bt a0) → Calls Try.prog 14 #[u, v] W fun e w' => e = .returned (.bool true) ∧ Bl W w' := fun u v X Y W h1 h2 h3 h4 => by
    have hl : X.length ≤ 1048577 := by have := congrArg List.length h3; simp at this; omega
    have := lists_any u v X Y hl W h1 h2
    rwa [sameX, decide_eq_true (by rw [h3, h4])] at this
  generalize mayM (bt a0) = q at k10 k11
  generalize runM (bt a0) = n at k12 k13
  generalize wordsM (bt a0) = ws at k14 k15 k16
  cases q
  · go_enter Try.func3, Try.ntmps3
    go_wp2_with (first | (go_at_call 10; refine (k10 _).mono ?_; rintro e w1 ⟨rfl, hb1⟩) | (go_at_call 11; refine (k11 _).mono ?_; rintro e w2 ⟨rfl, hb2⟩; have HB := hb1.trans hb2) | (go_at_call 12; refine (k12 _).mono ?_; rintro e w3 ⟨rfl, hb3⟩; replace HB := HB.trans hb3) | (go_at_call 13; refine (k13 _).mono ?_; rintro e w4 ⟨rfl, hb4⟩; replace HB := HB.trans hb4) | (go_at_call 15; refine (k15 _).mono ?_; rintro e w5 ⟨v5, X5, rfl, hX5, hm5, hb5⟩; replace HB := HB.trans hb5) | (go_at_call 16; refine (k16 _).mono ?_; rintro e w6 ⟨v6, X6, rfl, hX6, hm6, hb6⟩; replace HB := HB.trans hb6) | (go_at_call 14; refine (k14 _ _ X5 X6 _ (hX5.gr hb6) hX6 hm5 hm6).mono ?_; rintro e w7 ⟨rfl, hb7⟩; replace HB := HB.trans hb7) | (go_at_call 9; refine (hal _).mono ?_; rintro e w8 ⟨rfl, hb8⟩; replace HB := HB.trans hb8))
    go_returns
    exact ⟨rfl, HB⟩
  · go_enter Try.func3, Try.ntmps3
    go_wp2_with (first | (go_at_call 10; refine (k10 _).mono ?_; rintro e w1 ⟨rfl, hb1⟩) | (go_at_call 11; refine (k11 _).mono ?_; rintro e w2 ⟨rfl, hb2⟩; have HB := hb1.trans hb2) | (go_at_call 12; refine (k12 _).mono ?_; rintro e w3 ⟨rfl, hb3⟩; replace HB := HB.trans hb3) | (go_at_call 13; refine (k13 _).mono ?_; rintro e w4 ⟨rfl, hb4⟩; replace HB := HB.trans hb4) | (go_at_call 15; refine (k15 _).mono ?_; rintro e w5 ⟨v5, X5, rfl, hX5, hm5, hb5⟩; replace HB := HB.trans hb5) | (go_at_call 16; refine (k16 _).mono ?_; rintro e w6 ⟨v6, X6, rfl, hX6, hm6, hb6⟩; replace HB := HB.trans hb6) | (go_at_call 14; refine (k14 _ _ X5 X6 _ (hX5.gr hb6) hX6 hm5 hm6).mono ?_; rintro e w7 ⟨rfl, hb7⟩; replace HB := HB.trans hb7) | (go_at_call 9; refine (hal _).mono ?_; rintro e w8 ⟨rfl, hb8⟩; replace HB := HB.trans hb8))
    go_returns
    exact ⟨rfl, HB⟩

set_option maxRecDepth 100000 in
theorem lifted (os : Os) (started : os.Started) (H : Type) (enc : TypeId × Value → H) :
    ReturnsInHanded {} Try.checked os 3 .any (Rows.nameTellsSpec.pre6 enc Try.prog Try.f3 Rows.nameTellsRow.domain false) (Rows.nameTellsSpec.post enc Try.prog Try.f3 false true false false) := by
  refine returnsInHanded_of_change (C := Try.checked) own started (by kernel_rfl) Try.func3
    (ChangeSpec.witness6 (enc := enc) (C := Try.checked) false ⟨#[], #[.string ByteArray.empty], []⟩ 8 (by kernel_rfl) (by kernel_rfl) (by kernel_rfl) (by kernel_rfl)) ?_
  intro W base args ds gs before hval0 hW hcnd _
  have hval : ∀ (j : Nat) t v, Try.f3.params[j]? = some t → args[j]? = some v → Value.okWide Try.prog W .any base t v := hval0
  have hW' := hW
  obtain ⟨p, q, hA0, hV, rfl, hfz, hnd⟩ := hW
  have hA : DataW.TrodAll enc Try.prog W 0 (fun _ => true) true Try.f3.params.toList args.toList ds p := hA0
  rw [Try.params3] at hA hval
  obtain ⟨v0, vs0, d0, ds0, p0, q0, hargs, rfl, rfl, h0, r0⟩ := trodAll_cons hA
  obtain ⟨rfl, rfl, rfl⟩ := trodAll_nil r0
  obtain rfl : args = #[v0] := by cases args; simp_all
  obtain ⟨rfl, rfl⟩ := trodVars_none hV
  obtain ⟨a0, rfl, rfl, rfl, w0⟩ := open_string Try.underlying9 (hval 0 9 v0 rfl rfl) h0
  clear hA0 hval0
  simp only [List.append_nil] at hW'
  refine (walk a0 w0 W).mono fun e W' ⟨he, hg⟩ => ?_
  subst he
  exact ⟨_, rfl, post_nil hW' (fun _ _ _ => (trodAll_cons_mk (shut_bool Try.underlying4 _) trodAll_mk0)) (fun sp => (trodAll_cons_mk (shut_string Try.underlying9 w0) trodAll_mk0)) (fun _ => rfl)
    hg (ok_one (by kernel_rfl) rfl (okWide_bool_mk Try.underlying4 _))⟩

theorem over : Rows.nameTellsRow.holds Try.pinned (OpenSpec.ofChange Rows.nameTellsSpec) :=
  OpenClaim.holds_of_wide 3 Try.f3 rfl rfl rfl rfl rfl rfl rfl ⟨rfl, rfl, rfl, rfl, rfl⟩ rfl rfl rfl rfl rfl (by kernel_rfl) Try.func3 (by kernel_rfl)
    (of_decide_eq_true (by kernel_rfl)) (by unfold Func.isWrapper; first | (rw [if_pos (by decide +kernel)]; kernel_rfl) | (rw [if_neg (by decide +kernel)]; exact ⟨rfl, rfl⟩))
    (fun os started H enc _ => lifted os started H enc)

theorem proved : Rows.NameTellsSaid :=
  over
end Go.Proofs.Ytkndkniimlckeaa.nameTells
namespace Go.Proofs.Ytkndkniimlckeaa
theorem nameTells_holds : Rows.NameTellsSaid :=
  nameTells.proved
#print axioms nameTells_holds
end Go.Proofs.Ytkndkniimlckeaa
