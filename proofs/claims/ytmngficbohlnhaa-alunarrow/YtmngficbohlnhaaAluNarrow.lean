/- For every code, every two numbers and any upper bits, the statement AluNarrow of layer 2 returns true: with 32 bits all hangs on the lower bits of both numbers, and what is reckoned has no others; no condition. -/
import Derived.Test.YtmngficbohlnhaaNarrow
import Derived.WalkKit
import Derived.ProofKit
import Derived.OpenShut
import Derived.ShutString
namespace Go.Proofs.Ytmngficbohlnhaa.aluNarrow
open Go.ChangeShapes Go.WideShapes Go.ChangeAt Go.RowKit
open Go.ChangeMaps (open_string shut_string)
set_option linter.unusedVariables false      -- a walk need not use every 'w<i>' (that an integer argument fits its kind)

theorem own : ownKnob Try.prog.godebug = none := by kernel_rfl

/-! ### STEP 1: THE WALK: the Go text returns true. 'Grown w w'': the world has at most new blocks (Derived/RowKit3.lean). Part the cases AHEAD of 'go_enter' where a test parts the walk; take each callee by a contract of your own. -/
set_option maxRecDepth 100000 in
set_option maxHeartbeats 16000000 in
theorem walk (a0 : Int) (a1 : Int) (a2 : Int) (a3 : Int) (w0 : (Lit.int .u8 a0).wf = true) (w1 : (Lit.int .u64 a1).wf = true) (w2 : (Lit.int .u64 a2).wf = true) (w3 : (Lit.int .u64 a3).wf = true) (w : World) :
    Calls Try.prog 5 #[.int .u8 a0, .int .u64 a1, .int .u64 a2, .int .u64 a3] w fun e w' => e = .returned (.bool true) ∧ Grown w w' := by
  have b0 := bd_u8 w0
  have b1 := bd_u64 w1
  have b2 := bd_u64 w2
  have b3 := bd_u64 w3
  clear w0 w1 w2 w3
  have HG : Gr w w := Gr.refl w
  obtain ⟨C, hC, c0, c1⟩ := mix1 a1 a3 b1 b3
  obtain ⟨D, hD, d0, d1⟩ := mix2 a2 a3 b2 b3
  have k1 : (doesV false a0 a1 a2 != doesV false a0 C D) = false := by rw [does_low a0 c1 d1, bne_self_eq_false]
  have k2 : asksV false a0 C D = asksV false a0 a1 a2 := asks_low a0 c1 d1
  have k3 : (doesV false a0 a1 a2 / 4294967296 != 0) = false := by rw [does_high, bne_self_eq_false]
  have k4 : (errD a0 != errD a0) = false := bne_self_eq_false _
  have k5 : (errA a0 != errA a0) = false := bne_self_eq_false _
  clear c1 d1
  by_cases h1 : a1 < 4294967296
  · have g1 : (a1 / 4294967296 == 0) = true := by simp; omega
    by_cases h2 : a2 < 4294967296
    · have g2 : (a2 / 4294967296 == 0) = true := by simp; omega
      by_cases h3 : 13 ≤ a0
      · have g3 : (errD a0 == 0) = false := by rw [errD, if_neg (by omega)]; decide
        clear h1 h2 h3
        go_enter Try.func5, Try.ntmps5
        go_wp2_with (first
          | (go_at_call 8; refine (does_any _ _ _ _ (by omega) (by first | exact b1 | exact c0) (by first | exact b2 | exact d0) _).mono ?_; rintro e w' ⟨rfl, hg⟩; replace HG := HG.trans hg; clear hg)
          | (go_at_call 10; refine (asks_any _ _ _ _ (by omega) (by first | exact b1 | exact c0) (by first | exact b2 | exact d0) _).mono ?_; rintro e w' ⟨rfl, hg⟩; replace HG := HG.trans hg; clear hg)
          | (go_at_call 16; refine (alive_any _).mono ?_; rintro e w' ⟨rfl, hg⟩; replace HG := HG.trans hg; clear hg))
        go_ret
        exact ⟨rfl, HG.grown⟩
      · rcases (by omega : a0 = 0 ∨ a0 = 1 ∨ a0 = 2 ∨ a0 = 3 ∨ a0 = 4 ∨ a0 = 5 ∨ a0 = 6 ∨ a0 = 7 ∨ a0 = 8 ∨ a0 = 9 ∨ a0 = 10 ∨ a0 = 11 ∨ a0 = 12) with rfl | rfl | rfl | rfl | rfl | rfl | rfl | rfl | rfl | rfl | rfl | rfl | rfl
        · have g3 : (errD 0 == 0) = true := rfl
          have k6 : (doesV false 0 a1 a2 == bits .and .u64 (doesV true 0 a1 a2) 4294967295) = true := by rw [and_mask _ (u64_bd _ _ _ _), na0 a1 a2 ⟨b1.1, h1⟩ ⟨b2.1, h2⟩, beq_self_eq_true]
          clear h1 h2 h3
          go_enter Try.func5, Try.ntmps5
          go_wp2_with (first
            | (go_at_call 8; refine (does_any _ _ _ _ (by omega) (by first | exact b1 | exact c0) (by first | exact b2 | exact d0) _).mono ?_; rintro e w' ⟨rfl, hg⟩; replace HG := HG.trans hg; clear hg)
            | (go_at_call 10; refine (asks_any _ _ _ _ (by omega) (by first | exact b1 | exact c0) (by first | exact b2 | exact d0) _).mono ?_; rintro e w' ⟨rfl, hg⟩; replace HG := HG.trans hg; clear hg)
            | (go_at_call 16; refine (alive_any _).mono ?_; rintro e w' ⟨rfl, hg⟩; replace HG := HG.trans hg; clear hg))
          go_ret
          exact ⟨rfl, HG.grown⟩
        · have g3 : (errD 1 == 0) = true := rfl
          have k6 : (doesV false 1 a1 a2 == bits .and .u64 (doesV true 1 a1 a2) 4294967295) = true := by rw [and_mask _ (u64_bd _ _ _ _), na1 a1 a2 ⟨b1.1, h1⟩ ⟨b2.1, h2⟩, beq_self_eq_true]
          clear h1 h2 h3
          go_enter Try.func5, Try.ntmps5
          go_wp2_with (first
            | (go_at_call 8; refine (does_any _ _ _ _ (by omega) (by first | exact b1 | exact c0) (by first | exact b2 | exact d0) _).mono ?_; rintro e w' ⟨rfl, hg⟩; replace HG := HG.trans hg; clear hg)
            | (go_at_call 10; refine (asks_any _ _ _ _ (by omega) (by first | exact b1 | exact c0) (by first | exact b2 | exact d0) _).mono ?_; rintro e w' ⟨rfl, hg⟩; replace HG := HG.trans hg; clear hg)
            | (go_at_call 16; refine (alive_any _).mono ?_; rintro e w' ⟨rfl, hg⟩; replace HG := HG.trans hg; clear hg))
          go_ret
          exact ⟨rfl, HG.grown⟩
        · have g3 : (errD 2 == 0) = true := rfl
          have k6 : (doesV false 2 a1 a2 == bits .and .u64 (doesV true 2 a1 a2) 4294967295) = true := by rw [and_mask _ (u64_bd _ _ _ _), na2 a1 a2 ⟨b1.1, h1⟩ ⟨b2.1, h2⟩, beq_self_eq_true]
          clear h1 h2 h3
          go_enter Try.func5, Try.ntmps5
          go_wp2_with (first
            | (go_at_call 8; refine (does_any _ _ _ _ (by omega) (by first | exact b1 | exact c0) (by first | exact b2 | exact d0) _).mono ?_; rintro e w' ⟨rfl, hg⟩; replace HG := HG.trans hg; clear hg)
            | (go_at_call 10; refine (asks_any _ _ _ _ (by omega) (by first | exact b1 | exact c0) (by first | exact b2 | exact d0) _).mono ?_; rintro e w' ⟨rfl, hg⟩; replace HG := HG.trans hg; clear hg)
            | (go_at_call 16; refine (alive_any _).mono ?_; rintro e w' ⟨rfl, hg⟩; replace HG := HG.trans hg; clear hg))
          go_ret
          exact ⟨rfl, HG.grown⟩
        · have g3 : (errD 3 == 0) = true := rfl
          have k6 : (doesV false 3 a1 a2 == bits .and .u64 (doesV true 3 a1 a2) 4294967295) = true := by rw [and_mask _ (u64_bd _ _ _ _), na3 a1 a2 ⟨b1.1, h1⟩ ⟨b2.1, h2⟩, beq_self_eq_true]
          clear h1 h2 h3
          go_enter Try.func5, Try.ntmps5
          go_wp2_with (first
            | (go_at_call 8; refine (does_any _ _ _ _ (by omega) (by first | exact b1 | exact c0) (by first | exact b2 | exact d0) _).mono ?_; rintro e w' ⟨rfl, hg⟩; replace HG := HG.trans hg; clear hg)
            | (go_at_call 10; refine (asks_any _ _ _ _ (by omega) (by first | exact b1 | exact c0) (by first | exact b2 | exact d0) _).mono ?_; rintro e w' ⟨rfl, hg⟩; replace HG := HG.trans hg; clear hg)
            | (go_at_call 16; refine (alive_any _).mono ?_; rintro e w' ⟨rfl, hg⟩; replace HG := HG.trans hg; clear hg))
          go_ret
          exact ⟨rfl, HG.grown⟩
        · have g3 : (errD 4 == 0) = true := rfl
          have k6 : (doesV false 4 a1 a2 == bits .and .u64 (doesV true 4 a1 a2) 4294967295) = true := by rw [and_mask _ (u64_bd _ _ _ _), na4 a1 a2 ⟨b1.1, h1⟩ ⟨b2.1, h2⟩, beq_self_eq_true]
          clear h1 h2 h3
          go_enter Try.func5, Try.ntmps5
          go_wp2_with (first
            | (go_at_call 8; refine (does_any _ _ _ _ (by omega) (by first | exact b1 | exact c0) (by first | exact b2 | exact d0) _).mono ?_; rintro e w' ⟨rfl, hg⟩; replace HG := HG.trans hg; clear hg)
            | (go_at_call 10; refine (asks_any _ _ _ _ (by omega) (by first | exact b1 | exact c0) (by first | exact b2 | exact d0) _).mono ?_; rintro e w' ⟨rfl, hg⟩; replace HG := HG.trans hg; clear hg)
            | (go_at_call 16; refine (alive_any _).mono ?_; rintro e w' ⟨rfl, hg⟩; replace HG := HG.trans hg; clear hg))
          go_ret
          exact ⟨rfl, HG.grown⟩
        · have g3 : (errD 5 == 0) = true := rfl
          have k6 : (doesV false 5 a1 a2 == bits .and .u64 (doesV true 5 a1 a2) 4294967295) = true := by rw [and_mask _ (u64_bd _ _ _ _), na5 a1 a2 ⟨b1.1, h1⟩ ⟨b2.1, h2⟩, beq_self_eq_true]
          clear h1 h2 h3
          go_enter Try.func5, Try.ntmps5
          go_wp2_with (first
            | (go_at_call 8; refine (does_any _ _ _ _ (by omega) (by first | exact b1 | exact c0) (by first | exact b2 | exact d0) _).mono ?_; rintro e w' ⟨rfl, hg⟩; replace HG := HG.trans hg; clear hg)
            | (go_at_call 10; refine (asks_any _ _ _ _ (by omega) (by first | exact b1 | exact c0) (by first | exact b2 | exact d0) _).mono ?_; rintro e w' ⟨rfl, hg⟩; replace HG := HG.trans hg; clear hg)
            | (go_at_call 16; refine (alive_any _).mono ?_; rintro e w' ⟨rfl, hg⟩; replace HG := HG.trans hg; clear hg))
          go_ret
          exact ⟨rfl, HG.grown⟩
        · have g3 : (errD 6 == 0) = true := rfl
          clear h1 h2 h3
          go_enter Try.func5, Try.ntmps5
          go_wp2_with (first
            | (go_at_call 8; refine (does_any _ _ _ _ (by omega) (by first | exact b1 | exact c0) (by first | exact b2 | exact d0) _).mono ?_; rintro e w' ⟨rfl, hg⟩; replace HG := HG.trans hg; clear hg)
            | (go_at_call 10; refine (asks_any _ _ _ _ (by omega) (by first | exact b1 | exact c0) (by first | exact b2 | exact d0) _).mono ?_; rintro e w' ⟨rfl, hg⟩; replace HG := HG.trans hg; clear hg)
            | (go_at_call 16; refine (alive_any _).mono ?_; rintro e w' ⟨rfl, hg⟩; replace HG := HG.trans hg; clear hg))
          go_ret
          exact ⟨rfl, HG.grown⟩
        · have g3 : (errD 7 == 0) = true := rfl
          clear h1 h2 h3
          go_enter Try.func5, Try.ntmps5
          go_wp2_with (first
            | (go_at_call 8; refine (does_any _ _ _ _ (by omega) (by first | exact b1 | exact c0) (by first | exact b2 | exact d0) _).mono ?_; rintro e w' ⟨rfl, hg⟩; replace HG := HG.trans hg; clear hg)
            | (go_at_call 10; refine (asks_any _ _ _ _ (by omega) (by first | exact b1 | exact c0) (by first | exact b2 | exact d0) _).mono ?_; rintro e w' ⟨rfl, hg⟩; replace HG := HG.trans hg; clear hg)
            | (go_at_call 16; refine (alive_any _).mono ?_; rintro e w' ⟨rfl, hg⟩; replace HG := HG.trans hg; clear hg))
          go_ret
          exact ⟨rfl, HG.grown⟩
        · have g3 : (errD 8 == 0) = true := rfl
          clear h1 h2 h3
          go_enter Try.func5, Try.ntmps5
          go_wp2_with (first
            | (go_at_call 8; refine (does_any _ _ _ _ (by omega) (by first | exact b1 | exact c0) (by first | exact b2 | exact d0) _).mono ?_; rintro e w' ⟨rfl, hg⟩; replace HG := HG.trans hg; clear hg)
            | (go_at_call 10; refine (asks_any _ _ _ _ (by omega) (by first | exact b1 | exact c0) (by first | exact b2 | exact d0) _).mono ?_; rintro e w' ⟨rfl, hg⟩; replace HG := HG.trans hg; clear hg)
            | (go_at_call 16; refine (alive_any _).mono ?_; rintro e w' ⟨rfl, hg⟩; replace HG := HG.trans hg; clear hg))
          go_ret
          exact ⟨rfl, HG.grown⟩
        · have g3 : (errD 9 == 0) = true := rfl
          have k6 : (doesV false 9 a1 a2 == bits .and .u64 (doesV true 9 a1 a2) 4294967295) = true := by rw [and_mask _ (u64_bd _ _ _ _), na9 a1 a2 ⟨b1.1, h1⟩ ⟨b2.1, h2⟩, beq_self_eq_true]
          clear h1 h2 h3
          go_enter Try.func5, Try.ntmps5
          go_wp2_with (first
            | (go_at_call 8; refine (does_any _ _ _ _ (by omega) (by first | exact b1 | exact c0) (by first | exact b2 | exact d0) _).mono ?_; rintro e w' ⟨rfl, hg⟩; replace HG := HG.trans hg; clear hg)
            | (go_at_call 10; refine (asks_any _ _ _ _ (by omega) (by first | exact b1 | exact c0) (by first | exact b2 | exact d0) _).mono ?_; rintro e w' ⟨rfl, hg⟩; replace HG := HG.trans hg; clear hg)
            | (go_at_call 16; refine (alive_any _).mono ?_; rintro e w' ⟨rfl, hg⟩; replace HG := HG.trans hg; clear hg))
          go_ret
          exact ⟨rfl, HG.grown⟩
        · have g3 : (errD 10 == 0) = true := rfl
          have k6 : (doesV false 10 a1 a2 == bits .and .u64 (doesV true 10 a1 a2) 4294967295) = true := by rw [and_mask _ (u64_bd _ _ _ _), na10 a1 a2 ⟨b1.1, h1⟩ ⟨b2.1, h2⟩, beq_self_eq_true]
          clear h1 h2 h3
          go_enter Try.func5, Try.ntmps5
          go_wp2_with (first
            | (go_at_call 8; refine (does_any _ _ _ _ (by omega) (by first | exact b1 | exact c0) (by first | exact b2 | exact d0) _).mono ?_; rintro e w' ⟨rfl, hg⟩; replace HG := HG.trans hg; clear hg)
            | (go_at_call 10; refine (asks_any _ _ _ _ (by omega) (by first | exact b1 | exact c0) (by first | exact b2 | exact d0) _).mono ?_; rintro e w' ⟨rfl, hg⟩; replace HG := HG.trans hg; clear hg)
            | (go_at_call 16; refine (alive_any _).mono ?_; rintro e w' ⟨rfl, hg⟩; replace HG := HG.trans hg; clear hg))
          go_ret
          exact ⟨rfl, HG.grown⟩
        · have g3 : (errD 11 == 0) = true := rfl
          have k6 : (doesV false 11 a1 a2 == bits .and .u64 (doesV true 11 a1 a2) 4294967295) = true := by rw [and_mask _ (u64_bd _ _ _ _), na11 a1 a2 ⟨b1.1, h1⟩ ⟨b2.1, h2⟩, beq_self_eq_true]
          clear h1 h2 h3
          go_enter Try.func5, Try.ntmps5
          go_wp2_with (first
            | (go_at_call 8; refine (does_any _ _ _ _ (by omega) (by first | exact b1 | exact c0) (by first | exact b2 | exact d0) _).mono ?_; rintro e w' ⟨rfl, hg⟩; replace HG := HG.trans hg; clear hg)
            | (go_at_call 10; refine (asks_any _ _ _ _ (by omega) (by first | exact b1 | exact c0) (by first | exact b2 | exact d0) _).mono ?_; rintro e w' ⟨rfl, hg⟩; replace HG := HG.trans hg; clear hg)
            | (go_at_call 16; refine (alive_any _).mono ?_; rintro e w' ⟨rfl, hg⟩; replace HG := HG.trans hg; clear hg))
          go_ret
          exact ⟨rfl, HG.grown⟩
        · have g3 : (errD 12 == 0) = true := rfl
          clear h1 h2 h3
          go_enter Try.func5, Try.ntmps5
          go_wp2_with (first
            | (go_at_call 8; refine (does_any _ _ _ _ (by omega) (by first | exact b1 | exact c0) (by first | exact b2 | exact d0) _).mono ?_; rintro e w' ⟨rfl, hg⟩; replace HG := HG.trans hg; clear hg)
            | (go_at_call 10; refine (asks_any _ _ _ _ (by omega) (by first | exact b1 | exact c0) (by first | exact b2 | exact d0) _).mono ?_; rintro e w' ⟨rfl, hg⟩; replace HG := HG.trans hg; clear hg)
            | (go_at_call 16; refine (alive_any _).mono ?_; rintro e w' ⟨rfl, hg⟩; replace HG := HG.trans hg; clear hg))
          go_ret
          exact ⟨rfl, HG.grown⟩
    · have g2 : (a2 / 4294967296 == 0) = false := by simp; omega
      clear h1 h2
      go_enter Try.func5, Try.ntmps5
      go_wp2_with (first
        | (go_at_call 8; refine (does_any _ _ _ _ (by omega) (by first | exact b1 | exact c0) (by first | exact b2 | exact d0) _).mono ?_; rintro e w' ⟨rfl, hg⟩; replace HG := HG.trans hg; clear hg)
        | (go_at_call 10; refine (asks_any _ _ _ _ (by omega) (by first | exact b1 | exact c0) (by first | exact b2 | exact d0) _).mono ?_; rintro e w' ⟨rfl, hg⟩; replace HG := HG.trans hg; clear hg)
        | (go_at_call 16; refine (alive_any _).mono ?_; rintro e w' ⟨rfl, hg⟩; replace HG := HG.trans hg; clear hg))
      go_ret
      exact ⟨rfl, HG.grown⟩
  · have g1 : (a1 / 4294967296 == 0) = false := by simp; omega
    clear h1
    go_enter Try.func5, Try.ntmps5
    go_wp2_with (first
      | (go_at_call 8; refine (does_any _ _ _ _ (by omega) (by first | exact b1 | exact c0) (by first | exact b2 | exact d0) _).mono ?_; rintro e w' ⟨rfl, hg⟩; replace HG := HG.trans hg; clear hg)
      | (go_at_call 10; refine (asks_any _ _ _ _ (by omega) (by first | exact b1 | exact c0) (by first | exact b2 | exact d0) _).mono ?_; rintro e w' ⟨rfl, hg⟩; replace HG := HG.trans hg; clear hg)
      | (go_at_call 16; refine (alive_any _).mono ?_; rintro e w' ⟨rfl, hg⟩; replace HG := HG.trans hg; clear hg))
    go_ret
    exact ⟨rfl, HG.grown⟩

/-! ### THE ROW's STEP: WRITTEN OUT: LEAVE IT -/
set_option maxRecDepth 100000 in
theorem lifted (os : Os) (started : os.Started) (H : Type) (enc : TypeId × Value → H) :
    ReturnsInHanded {} Try.checked os 5 .any (Rows.aluNarrowSpec.pre6 enc Try.prog Try.f5 Rows.aluNarrowRow.domain false) (Rows.aluNarrowSpec.post enc Try.prog Try.f5 false true false false) := by
  refine returnsInHanded_of_change (C := Try.checked) own started (by kernel_rfl) Try.func5
    (ChangeSpec.witness6 (enc := enc) (C := Try.checked) false ⟨#[], #[.int .u8 0, .int .u64 0, .int .u64 0, .int .u64 0], []⟩ 8 (by kernel_rfl) (by kernel_rfl) (by kernel_rfl) (by kernel_rfl)) ?_
  intro W base args ds gs before hval0 hW hcnd _
  have hval : ∀ (j : Nat) t v, Try.f5.params[j]? = some t → args[j]? = some v → Value.okWide Try.prog W .any base t v := hval0
  have hW' := hW
  obtain ⟨p, q, hA0, hV, rfl, hfz, hnd⟩ := hW
  have hA : DataW.TrodAll enc Try.prog W 0 (fun _ => true) true Try.f5.params.toList args.toList ds p := hA0
  rw [Try.params5] at hA hval
  obtain ⟨v0, vs0, d0, ds0, p0, q0, hargs, rfl, rfl, h0, r0⟩ := trodAll_cons hA
  obtain ⟨v1, vs1, d1, ds1, p1, q1, rfl, rfl, rfl, h1, r1⟩ := trodAll_cons r0
  obtain ⟨v2, vs2, d2, ds2, p2, q2, rfl, rfl, rfl, h2, r2⟩ := trodAll_cons r1
  obtain ⟨v3, vs3, d3, ds3, p3, q3, rfl, rfl, rfl, h3, r3⟩ := trodAll_cons r2
  obtain ⟨rfl, rfl, rfl⟩ := trodAll_nil r3
  obtain rfl : args = #[v0, v1, v2, v3] := by cases args; simp_all
  obtain ⟨rfl, rfl⟩ := trodVars_none hV
  obtain ⟨a0, rfl, rfl, rfl, w0⟩ := open_int Try.underlying5 (hval 0 5 v0 rfl rfl) h0
  obtain ⟨a1, rfl, rfl, rfl, w1⟩ := open_int Try.underlying22 (hval 1 22 v1 rfl rfl) h1
  obtain ⟨a2, rfl, rfl, rfl, w2⟩ := open_int Try.underlying22 (hval 2 22 v2 rfl rfl) h2
  obtain ⟨a3, rfl, rfl, rfl, w3⟩ := open_int Try.underlying22 (hval 3 22 v3 rfl rfl) h3
  clear hA0 hval0
  simp only [List.append_nil] at hW'
  refine (walk a0 a1 a2 a3 w0 w1 w2 w3 W).mono fun e W' ⟨he, hg⟩ => ?_
  subst he
  exact ⟨_, rfl, post_of_same (pa := []) (pv := []) hW' (fun _ _ _ => (trodAll_cons_mk (shut_bool Try.underlying4 _) trodAll_mk0)) (fun sp _ => (trodAll_cons_mk (shut_int Try.underlying5 w0) (trodAll_cons_mk (shut_int Try.underlying22 w1) (trodAll_cons_mk (shut_int Try.underlying22 w2) (trodAll_cons_mk (shut_int Try.underlying22 w3) trodAll_mk0))))) (fun _ _ => rfl) rfl
    (hg.frame _) hg.2.1 (ok_one (by kernel_rfl) rfl (okWide_bool_mk Try.underlying4 _))⟩

theorem over : Rows.aluNarrowRow.holds Try.pinned (OpenSpec.ofChange Rows.aluNarrowSpec) :=
  OpenClaim.holds_of_wide 5 Try.f5 rfl rfl rfl rfl rfl rfl rfl ⟨rfl, rfl, rfl, rfl, rfl⟩ rfl rfl rfl rfl rfl (by kernel_rfl) Try.func5 (by kernel_rfl)
    (of_decide_eq_true (by kernel_rfl)) (by unfold Func.isWrapper; first | (rw [if_pos (by decide +kernel)]; kernel_rfl) | (rw [if_neg (by decide +kernel)]; exact ⟨rfl, rfl⟩))
    (fun os started H enc _ => lifted os started H enc)

theorem proved : Rows.AluNarrowSaid :=
  over
end Go.Proofs.Ytmngficbohlnhaa.aluNarrow
namespace Go.Proofs.Ytmngficbohlnhaa
theorem aluNarrow_holds : Rows.AluNarrowSaid :=
  aluNarrow.proved
#print axioms aluNarrow_holds
end Go.Proofs.Ytmngficbohlnhaa
