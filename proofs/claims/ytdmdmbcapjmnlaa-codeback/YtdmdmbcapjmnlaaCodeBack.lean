/- CodeBack, for every two programs and every text: what was written is read, what is read is written as it was, two programs one behind the other are both ones' bytes. No conditions. -/
import Derived.Test.YtdmdmbcapjmnlaaXC
import Derived.WalkKit
import Derived.ProofKit
import Derived.OpenShut
import Derived.ShutString
namespace Go.Proofs.Ytdmdmbcapjmnlaa.codeBack
open Go.ChangeShapes Go.WideShapes Go.ChangeAt Go.RowKit
open Go.ChangeMaps (open_string shut_string)
set_option linter.unusedVariables false
set_option linter.unusedSimpArgs false

theorem own : ownKnob Try.prog.godebug = none := by kernel_rfl

set_option maxRecDepth 100000 in
set_option maxHeartbeats 16000000 in
theorem walk (a0 : Option Addr) (n0 c0 : Nat) (a1 : Option Addr) (n1 c1 : Nat) (a2 : ByteArray) (w : World) (hN0 : ∀ n c, Value.slice a0 n0 c0 = .slice none n c → c = 0) (hs0 : n0 ≤ 4096 → ∃ L : List Sl, L.length = n0 ∧ Slots AnyB w (.slice a0 n0 c0) L) (hN1 : ∀ n c, Value.slice a1 n1 c1 = .slice none n c → c = 0) (hs1 : n1 ≤ 4096 → ∃ L : List Sl, L.length = n1 ∧ Slots AnyB w (.slice a1 n1 c1) L) (w2 : a2.size ≤ maxLen) :
    Calls Try.prog 3 #[.slice a0 n0 c0, .slice a1 n1 c1, .string a2] w fun e w' => e = .returned (.bool true) ∧ Below w.heap.size w w' := by
  by_cases h0 : 200 < n0
  · have hal := fun W => alive_any W
    have d1 : decide ((200 : Int) < n0) = true := by simp; omega
    go_enter Try.func3, Try.ntmps3
    go_wp2_with first | (go_at_call 5; refine (hal _).mono ?_; rintro e w1 ⟨rfl, hb⟩)
    go_returns
    exact ⟨rfl, hb⟩
  by_cases h1 : 200 < n1
  · have hal := fun W => alive_any W
    have d1 : decide ((200 : Int) < n0) = false := by simp; omega
    have d2 : decide ((200 : Int) < n1) = true := by simp; omega
    go_enter Try.func3, Try.ntmps3
    go_wp2_with first | (go_at_call 5; refine (hal _).mono ?_; rintro e w1 ⟨rfl, hb⟩)
    go_returns
    exact ⟨rfl, hb⟩
  by_cases h2 : 2048 < a2.size
  · have hal := fun W => alive_any W
    have d1 : decide ((200 : Int) < n0) = false := by simp; omega
    have d2 : decide ((200 : Int) < n1) = false := by simp; omega
    have d3 : decide ((2048 : Int) < a2.size) = true := by simp; omega
    go_enter Try.func3, Try.ntmps3
    go_wp2_with first | (go_at_call 5; refine (hal _).mono ?_; rintro e w1 ⟨rfl, hb⟩)
    go_returns
    exact ⟨rfl, hb⟩
  obtain ⟨L, rfl, hL⟩ := hs0 (by omega)
  obtain ⟨M, rfl, hM⟩ := hs1 (by omega)
  exact back_any a0 c0 L a1 c1 M a2 w hL hM (fun h => by subst h; exact hN0 _ _ rfl) (fun h => by subst h; exact hN1 _ _ rfl) (by omega) (by omega) (by omega)

theorem readable : ∀ t ∈ Try.f3.params.toList, Try.prog.readableRec t = true ∧ t < Try.prog.types.size := by
  rw [Try.params3]
  intro t ht
  simp at ht
  rcases ht with rfl | rfl | rfl
  all_goals exact ⟨by kernel_rfl, of_decide_eq_true (by kernel_rfl)⟩
set_option maxRecDepth 100000 in
theorem lifted (os : Os) (started : os.Started) (H : Type) (enc : TypeId × Value → H) :
    ReturnsInHanded {} Try.checked os 3 .any (Rows.codeBackSpec.pre6 enc Try.prog Try.f3 Rows.codeBackRow.domain false) (Rows.codeBackSpec.post enc Try.prog Try.f3 false true false false) := by
  refine returnsInHanded_of_change (C := Try.checked) own started (by kernel_rfl) Try.func3
    (ChangeSpec.witness6 (enc := enc) (C := Try.checked) false ⟨#[], #[.slice none 0 0, .slice none 0 0, .string ByteArray.empty], []⟩ 8 (by kernel_rfl) (by kernel_rfl) (by kernel_rfl) (by kernel_rfl)) ?_
  intro W base args ds gs before hval0 hW hcnd _
  have hval : ∀ (j : Nat) t v, Try.f3.params[j]? = some t → args[j]? = some v → Value.okWide Try.prog W .any base t v := hval0
  have hW' := hW
  obtain ⟨p, q, hA0, hV, rfl, hfz, hnd⟩ := hW
  have hA : DataW.TrodAll enc Try.prog W 0 (fun _ => true) true Try.f3.params.toList args.toList ds p := hA0
  rw [Try.params3] at hA hval
  obtain ⟨v0, vs0, d0, ds0, p0, q0, hargs, rfl, rfl, h0, r0⟩ := trodAll_cons hA
  obtain ⟨v1, vs1, d1, ds1, p1, q1, rfl, rfl, rfl, h1, r1⟩ := trodAll_cons r0
  obtain ⟨v2, vs2, d2, ds2, p2, q2, rfl, rfl, rfl, h2, r2⟩ := trodAll_cons r1
  obtain ⟨rfl, rfl, rfl⟩ := trodAll_nil r2
  obtain rfl : args = #[v0, v1, v2] := by cases args; simp_all
  obtain ⟨rfl, rfl⟩ := trodVars_none hV
  have hN0 := none_cap (hval 0 22 v0 rfl rfl) h0
  obtain ⟨a0, n0, c0, rfl, hs0⟩ := open_slots (hval 0 22 v0 rfl rfl) h0
  have hN1 := none_cap (hval 1 22 v1 rfl rfl) h1
  obtain ⟨a1, n1, c1, rfl, hs1⟩ := open_slots (hval 1 22 v1 rfl rfl) h1
  obtain ⟨a2, rfl, rfl, rfl, w2⟩ := open_string Try.underlying9 (hval 2 9 v2 rfl rfl) h2
  clear hA0 hval0
  refine (walk a0 n0 c0 a1 n1 c1 a2 W hN0 hs0 hN1 hs1 w2).mono fun e W' ⟨he, hg⟩ => ?_
  subst he
  exact ⟨_, rfl, post_bel readable hW' rfl (fun _ _ _ => (trodAll_cons_mk (shut_bool Try.underlying4 _) trodAll_mk0)) rfl (fun _ => rfl)
    hg (ok_one (by kernel_rfl) rfl (okWide_bool_mk Try.underlying4 _))⟩

theorem over : Rows.codeBackRow.holds Try.pinned (OpenSpec.ofChange Rows.codeBackSpec) :=
  OpenClaim.holds_of_wide 3 Try.f3 rfl rfl rfl rfl rfl rfl rfl ⟨rfl, rfl, rfl, rfl, rfl⟩ rfl rfl rfl rfl rfl (by kernel_rfl) Try.func3 (by kernel_rfl)
    (of_decide_eq_true (by kernel_rfl)) (by unfold Func.isWrapper; first | (rw [if_pos (by decide +kernel)]; kernel_rfl) | (rw [if_neg (by decide +kernel)]; exact ⟨rfl, rfl⟩))
    (fun os started H enc _ => lifted os started H enc)

theorem proved : Rows.CodeBackSaid :=
  over
end Go.Proofs.Ytdmdmbcapjmnlaa.codeBack
namespace Go.Proofs.Ytdmdmbcapjmnlaa
theorem codeBack_holds : Rows.CodeBackSaid :=
  codeBack.proved
#print axioms codeBack_holds
end Go.Proofs.Ytdmdmbcapjmnlaa
