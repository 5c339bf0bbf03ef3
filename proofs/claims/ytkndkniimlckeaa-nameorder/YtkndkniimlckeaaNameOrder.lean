/- NameOrder, for every three texts: the order is one, is that of the bytes of valid texts, and a beginning comes ahead. No conditions. -/
import Derived.Test.YtkndkniimlckeaaNL
import Derived.WalkKit
import Derived.ProofKit
import Derived.OpenShut
import Derived.ShutString
namespace Go.Proofs.Ytkndkniimlckeaa.nameOrder
open Go.ChangeShapes Go.WideShapes Go.ChangeAt Go.RowKit
open Go.ChangeMaps (open_string shut_string)
set_option linter.unusedVariables false
set_option linter.unusedSimpArgs false

theorem own : ownKnob Try.prog.godebug = none := by kernel_rfl

set_option maxRecDepth 100000 in
set_option maxHeartbeats 16000000 in
theorem walk (a0 : ByteArray) (a1 : ByteArray) (a2 : ByteArray) (w0 : a0.size ≤ maxLen) (w1 : a1.size ≤ maxLen) (w2 : a2.size ≤ maxLen) (w : World) :
    Calls Try.prog 5 #[.string a0, .string a1, .string a2] w fun e w' => e = .returned (.bool true) ∧ Below w.heap.size w w' := by
  have hal := fun W => alive_any W
  by_cases h0 : 2048 < a0.size
  · have d0 : decide ((2048 : Int) < a0.size) = true := by simp; omega
    go_enter Try.func5, Try.ntmps5
    go_wp2_with (first | (go_at_call 9; refine (hal _).mono ?_; rintro e w' ⟨rfl, hb⟩))
    go_returns
    exact ⟨rfl, hb⟩
  have d0 : decide ((2048 : Int) < a0.size) = false := by simp; omega
  by_cases h1 : 2048 < a1.size
  · have d1 : decide ((2048 : Int) < a1.size) = true := by simp; omega
    go_enter Try.func5, Try.ntmps5
    go_wp2_with (first | (go_at_call 9; refine (hal _).mono ?_; rintro e w' ⟨rfl, hb⟩))
    go_returns
    exact ⟨rfl, hb⟩
  have d1 : decide ((2048 : Int) < a1.size) = false := by simp; omega
  by_cases h2 : 2048 < a2.size
  · have d2 : decide ((2048 : Int) < a2.size) = true := by simp; omega
    go_enter Try.func5, Try.ntmps5
    go_wp2_with (first | (go_at_call 9; refine (hal _).mono ?_; rintro e w' ⟨rfl, hb⟩))
    go_returns
    exact ⟨rfl, hb⟩
  have d2 : decide ((2048 : Int) < a2.size) = false := by simp; omega
  have kab := fun W => compare_any a0 a1 (by omega) (by omega) W
  have kba := fun W => compare_any a1 a0 (by omega) (by omega) W
  have kbc := fun W => compare_any a1 a2 (by omega) (by omega) W
  have kac := fun W => compare_any a0 a2 (by omega) (by omega) W
  have kpre := fun W => compare_any a0 (a0 ++ a1) (by omega) (by rw [ByteArray.size_append]; omega) W
  have ra := fun W => runes_any a0 (by omega) W
  have rb := fun W => runes_any a1 (by omega) W
  have va := runM_ge (bt a0)
  have vb := runM_ge (bt a1)
  rw [cmpM_neg] at kba
  rw [bt_app] at kpre
  have heq : (a0.toList == a1.toList) = (cmpM (bt a0) (bt a1) == 0) := by
    rw [text_eq, Bool.eq_iff_iff, decide_eq_true_iff, beq_iff_eq, cmpM_zero]
  have htr := cmpM_trans (bt a0) (bt a1) (bt a2)
  have hless := less_eq a0 a1
  have hboth : (ch (bt a0)).isSome = true → (ch (bt a1)).isSome = true → cmpM (bt a0) (bt a1) = cmpN (bt a0) (bt a1) := cmpM_both _ _
  have hpre : (ch (bt a0)).isSome = true → bt a1 ≠ [] → cmpM (bt a0) (bt a0 ++ bt a1) = -1 := cmpM_pre _ _
  generalize cmpM (bt a0) (bt a0 ++ bt a1) = kp at kpre hpre
  generalize runM (bt a0) = na at ra va
  generalize runM (bt a1) = nb at rb vb
  generalize (ch (bt a0)).isSome = q1 at va hboth hpre
  generalize (ch (bt a1)).isSome = q2 at vb hboth
  generalize cmpM (bt a1) (bt a2) = k2 at kbc htr
  generalize cmpM (bt a0) (bt a2) = k3 at kac htr
  generalize hcn : cmpN (bt a0) (bt a1) = cn at hless hboth
  clear hcn
  have h3 := cmpM_three (bt a0) (bt a1)
  generalize cmpM (bt a0) (bt a1) = k at kab kba heq htr hboth h3
  have hnn : 0 ≤ 0 := Nat.le_refl 0
  rcases h3 with rfl | rfl | rfl
  · by_cases g2 : k2 ≤ 0
    · have e2 : decide (k2 ≤ 0) = true := by simp; omega
      have e3 : decide (0 < k3) = false := by have := htr (by decide) g2; simp; omega
      clear g2
      go_enter Try.func5, Try.ntmps5
      go_upto_region 4 with (go_at_call 19; refine (kab _).mono ?_; rintro e w1 ⟨rfl, hb1⟩)
      have HB := hb1
      go_upto_region 6 with (first | (go_at_call_of 19 a2; go_at_call_of 19 a1; refine (kbc _).mono ?_; rintro e w3 ⟨rfl, hb3⟩; replace HB := HB.trans hb3; clear hb3) | (go_at_call_of 19 a2; go_at_call_of 19 a0; refine (kac _).mono ?_; rintro e w4 ⟨rfl, hb4⟩; replace HB := HB.trans hb4; clear hb4) | (go_at_call 19; refine (kba _).mono ?_; rintro e w2 ⟨rfl, hb2⟩; replace HB := HB.trans hb2; clear hb2))
      clear kab kba kbc kac htr
      cases q1 with
      | false =>
        go_wp2_with (first | (go_at_call_of 12 a0; refine (ra _).mono ?_; rintro e w5 ⟨rfl, hb5⟩; replace HB := HB.trans hb5; clear hb5) | (go_at_call_of 12 a1; refine (rb _).mono ?_; rintro e w6 ⟨rfl, hb6⟩; replace HB := HB.trans hb6; clear hb6) | (go_at_call 19; refine (kpre _).mono ?_; rintro e w7 ⟨rfl, hb7⟩; replace HB := HB.trans hb7; clear hb7) | (go_at_call 9; refine (hal _).mono ?_; rintro e w8 ⟨rfl, hb8⟩; replace HB := HB.trans hb8; clear hb8))
        go_returns
        exact ⟨rfl, HB⟩
      | true =>
        cases q2 with
        | false =>
          go_wp2_with (first | (go_at_call_of 12 a0; refine (ra _).mono ?_; rintro e w5 ⟨rfl, hb5⟩; replace HB := HB.trans hb5; clear hb5) | (go_at_call_of 12 a1; refine (rb _).mono ?_; rintro e w6 ⟨rfl, hb6⟩; replace HB := HB.trans hb6; clear hb6) | (go_at_call 19; refine (kpre _).mono ?_; rintro e w7 ⟨rfl, hb7⟩; replace HB := HB.trans hb7; clear hb7) | (go_at_call 9; refine (hal _).mono ?_; rintro e w8 ⟨rfl, hb8⟩; replace HB := HB.trans hb8; clear hb8))
          go_returns
          exact ⟨rfl, HB⟩
        | true =>
          have hc := hboth rfl rfl
          rw [← hc] at hless
          have hle : Op.bytesLess a0.toList a1.toList = true := by rw [hless]; rfl
          clear hless hboth hc
          have hsz : ¬ 9223372036854775807 < a0.size + a1.size := by omega
          by_cases hE : bt a1 = []
          · have hemp : a1.toList = [] := (text_nil a1).2 hE
            rw [hemp] at hle
            exact absurd hle (by cases a0.toList <;> simp [Op.bytesLess])
          · have hemp : ¬ a1.toList = [] := fun h => hE ((text_nil a1).1 h)
            have hem2 : a1.toList.isEmpty = false := by simpa using hemp
            obtain rfl := hpre rfl hE
            go_wp2_with (first | (go_at_call_of 12 a0; refine (ra _).mono ?_; rintro e w5 ⟨rfl, hb5⟩; replace HB := HB.trans hb5; clear hb5) | (go_at_call_of 12 a1; refine (rb _).mono ?_; rintro e w6 ⟨rfl, hb6⟩; replace HB := HB.trans hb6; clear hb6) | (go_at_call 19; refine (kpre _).mono ?_; rintro e w7 ⟨rfl, hb7⟩; replace HB := HB.trans hb7; clear hb7) | (go_at_call 9; refine (hal _).mono ?_; rintro e w8 ⟨rfl, hb8⟩; replace HB := HB.trans hb8; clear hb8))
            go_returns
            exact ⟨rfl, HB⟩
    · have e2 : decide (k2 ≤ 0) = false := by simp; omega
      clear g2
      go_enter Try.func5, Try.ntmps5
      go_upto_region 4 with (go_at_call 19; refine (kab _).mono ?_; rintro e w1 ⟨rfl, hb1⟩)
      have HB := hb1
      go_upto_region 6 with (first | (go_at_call_of 19 a2; go_at_call_of 19 a1; refine (kbc _).mono ?_; rintro e w3 ⟨rfl, hb3⟩; replace HB := HB.trans hb3; clear hb3) | (go_at_call_of 19 a2; go_at_call_of 19 a0; refine (kac _).mono ?_; rintro e w4 ⟨rfl, hb4⟩; replace HB := HB.trans hb4; clear hb4) | (go_at_call 19; refine (kba _).mono ?_; rintro e w2 ⟨rfl, hb2⟩; replace HB := HB.trans hb2; clear hb2))
      clear kab kba kbc kac htr
      cases q1 with
      | false =>
        go_wp2_with (first | (go_at_call_of 12 a0; refine (ra _).mono ?_; rintro e w5 ⟨rfl, hb5⟩; replace HB := HB.trans hb5; clear hb5) | (go_at_call_of 12 a1; refine (rb _).mono ?_; rintro e w6 ⟨rfl, hb6⟩; replace HB := HB.trans hb6; clear hb6) | (go_at_call 19; refine (kpre _).mono ?_; rintro e w7 ⟨rfl, hb7⟩; replace HB := HB.trans hb7; clear hb7) | (go_at_call 9; refine (hal _).mono ?_; rintro e w8 ⟨rfl, hb8⟩; replace HB := HB.trans hb8; clear hb8))
        go_returns
        exact ⟨rfl, HB⟩
      | true =>
        cases q2 with
        | false =>
          go_wp2_with (first | (go_at_call_of 12 a0; refine (ra _).mono ?_; rintro e w5 ⟨rfl, hb5⟩; replace HB := HB.trans hb5; clear hb5) | (go_at_call_of 12 a1; refine (rb _).mono ?_; rintro e w6 ⟨rfl, hb6⟩; replace HB := HB.trans hb6; clear hb6) | (go_at_call 19; refine (kpre _).mono ?_; rintro e w7 ⟨rfl, hb7⟩; replace HB := HB.trans hb7; clear hb7) | (go_at_call 9; refine (hal _).mono ?_; rintro e w8 ⟨rfl, hb8⟩; replace HB := HB.trans hb8; clear hb8))
          go_returns
          exact ⟨rfl, HB⟩
        | true =>
          have hc := hboth rfl rfl
          rw [← hc] at hless
          have hle : Op.bytesLess a0.toList a1.toList = true := by rw [hless]; rfl
          clear hless hboth hc
          have hsz : ¬ 9223372036854775807 < a0.size + a1.size := by omega
          by_cases hE : bt a1 = []
          · have hemp : a1.toList = [] := (text_nil a1).2 hE
            rw [hemp] at hle
            exact absurd hle (by cases a0.toList <;> simp [Op.bytesLess])
          · have hemp : ¬ a1.toList = [] := fun h => hE ((text_nil a1).1 h)
            have hem2 : a1.toList.isEmpty = false := by simpa using hemp
            obtain rfl := hpre rfl hE
            go_wp2_with (first | (go_at_call_of 12 a0; refine (ra _).mono ?_; rintro e w5 ⟨rfl, hb5⟩; replace HB := HB.trans hb5; clear hb5) | (go_at_call_of 12 a1; refine (rb _).mono ?_; rintro e w6 ⟨rfl, hb6⟩; replace HB := HB.trans hb6; clear hb6) | (go_at_call 19; refine (kpre _).mono ?_; rintro e w7 ⟨rfl, hb7⟩; replace HB := HB.trans hb7; clear hb7) | (go_at_call 9; refine (hal _).mono ?_; rintro e w8 ⟨rfl, hb8⟩; replace HB := HB.trans hb8; clear hb8))
            go_returns
            exact ⟨rfl, HB⟩
  · by_cases g2 : k2 ≤ 0
    · have e2 : decide (k2 ≤ 0) = true := by simp; omega
      have e3 : decide (0 < k3) = false := by have := htr (by decide) g2; simp; omega
      clear g2
      go_enter Try.func5, Try.ntmps5
      go_upto_region 4 with (go_at_call 19; refine (kab _).mono ?_; rintro e w1 ⟨rfl, hb1⟩)
      have HB := hb1
      go_upto_region 6 with (first | (go_at_call_of 19 a2; go_at_call_of 19 a1; refine (kbc _).mono ?_; rintro e w3 ⟨rfl, hb3⟩; replace HB := HB.trans hb3; clear hb3) | (go_at_call_of 19 a2; go_at_call_of 19 a0; refine (kac _).mono ?_; rintro e w4 ⟨rfl, hb4⟩; replace HB := HB.trans hb4; clear hb4) | (go_at_call 19; refine (kba _).mono ?_; rintro e w2 ⟨rfl, hb2⟩; replace HB := HB.trans hb2; clear hb2))
      clear kab kba kbc kac htr
      cases q1 with
      | false =>
        go_wp2_with (first | (go_at_call_of 12 a0; refine (ra _).mono ?_; rintro e w5 ⟨rfl, hb5⟩; replace HB := HB.trans hb5; clear hb5) | (go_at_call_of 12 a1; refine (rb _).mono ?_; rintro e w6 ⟨rfl, hb6⟩; replace HB := HB.trans hb6; clear hb6) | (go_at_call 19; refine (kpre _).mono ?_; rintro e w7 ⟨rfl, hb7⟩; replace HB := HB.trans hb7; clear hb7) | (go_at_call 9; refine (hal _).mono ?_; rintro e w8 ⟨rfl, hb8⟩; replace HB := HB.trans hb8; clear hb8))
        go_returns
        exact ⟨rfl, HB⟩
      | true =>
        cases q2 with
        | false =>
          go_wp2_with (first | (go_at_call_of 12 a0; refine (ra _).mono ?_; rintro e w5 ⟨rfl, hb5⟩; replace HB := HB.trans hb5; clear hb5) | (go_at_call_of 12 a1; refine (rb _).mono ?_; rintro e w6 ⟨rfl, hb6⟩; replace HB := HB.trans hb6; clear hb6) | (go_at_call 19; refine (kpre _).mono ?_; rintro e w7 ⟨rfl, hb7⟩; replace HB := HB.trans hb7; clear hb7) | (go_at_call 9; refine (hal _).mono ?_; rintro e w8 ⟨rfl, hb8⟩; replace HB := HB.trans hb8; clear hb8))
          go_returns
          exact ⟨rfl, HB⟩
        | true =>
          have hc := hboth rfl rfl
          rw [← hc] at hless
          have hle : Op.bytesLess a0.toList a1.toList = false := by rw [hless]; rfl
          clear hless hboth hc
          have hsz : ¬ 9223372036854775807 < a0.size + a1.size := by omega
          by_cases hE : bt a1 = []
          · have hemp : a1.toList = [] := (text_nil a1).2 hE
            rw [hemp] at hle
            go_wp2_with (first | (go_at_call_of 12 a0; refine (ra _).mono ?_; rintro e w5 ⟨rfl, hb5⟩; replace HB := HB.trans hb5; clear hb5) | (go_at_call_of 12 a1; refine (rb _).mono ?_; rintro e w6 ⟨rfl, hb6⟩; replace HB := HB.trans hb6; clear hb6) | (go_at_call 19; refine (kpre _).mono ?_; rintro e w7 ⟨rfl, hb7⟩; replace HB := HB.trans hb7; clear hb7) | (go_at_call 9; refine (hal _).mono ?_; rintro e w8 ⟨rfl, hb8⟩; replace HB := HB.trans hb8; clear hb8))
            go_returns
            exact ⟨rfl, HB⟩
          · have hemp : ¬ a1.toList = [] := fun h => hE ((text_nil a1).1 h)
            have hem2 : a1.toList.isEmpty = false := by simpa using hemp
            obtain rfl := hpre rfl hE
            go_wp2_with (first | (go_at_call_of 12 a0; refine (ra _).mono ?_; rintro e w5 ⟨rfl, hb5⟩; replace HB := HB.trans hb5; clear hb5) | (go_at_call_of 12 a1; refine (rb _).mono ?_; rintro e w6 ⟨rfl, hb6⟩; replace HB := HB.trans hb6; clear hb6) | (go_at_call 19; refine (kpre _).mono ?_; rintro e w7 ⟨rfl, hb7⟩; replace HB := HB.trans hb7; clear hb7) | (go_at_call 9; refine (hal _).mono ?_; rintro e w8 ⟨rfl, hb8⟩; replace HB := HB.trans hb8; clear hb8))
            go_returns
            exact ⟨rfl, HB⟩
    · have e2 : decide (k2 ≤ 0) = false := by simp; omega
      clear g2
      go_enter Try.func5, Try.ntmps5
      go_upto_region 4 with (go_at_call 19; refine (kab _).mono ?_; rintro e w1 ⟨rfl, hb1⟩)
      have HB := hb1
      go_upto_region 6 with (first | (go_at_call_of 19 a2; go_at_call_of 19 a1; refine (kbc _).mono ?_; rintro e w3 ⟨rfl, hb3⟩; replace HB := HB.trans hb3; clear hb3) | (go_at_call_of 19 a2; go_at_call_of 19 a0; refine (kac _).mono ?_; rintro e w4 ⟨rfl, hb4⟩; replace HB := HB.trans hb4; clear hb4) | (go_at_call 19; refine (kba _).mono ?_; rintro e w2 ⟨rfl, hb2⟩; replace HB := HB.trans hb2; clear hb2))
      clear kab kba kbc kac htr
      cases q1 with
      | false =>
        go_wp2_with (first | (go_at_call_of 12 a0; refine (ra _).mono ?_; rintro e w5 ⟨rfl, hb5⟩; replace HB := HB.trans hb5; clear hb5) | (go_at_call_of 12 a1; refine (rb _).mono ?_; rintro e w6 ⟨rfl, hb6⟩; replace HB := HB.trans hb6; clear hb6) | (go_at_call 19; refine (kpre _).mono ?_; rintro e w7 ⟨rfl, hb7⟩; replace HB := HB.trans hb7; clear hb7) | (go_at_call 9; refine (hal _).mono ?_; rintro e w8 ⟨rfl, hb8⟩; replace HB := HB.trans hb8; clear hb8))
        go_returns
        exact ⟨rfl, HB⟩
      | true =>
        cases q2 with
        | false =>
          go_wp2_with (first | (go_at_call_of 12 a0; refine (ra _).mono ?_; rintro e w5 ⟨rfl, hb5⟩; replace HB := HB.trans hb5; clear hb5) | (go_at_call_of 12 a1; refine (rb _).mono ?_; rintro e w6 ⟨rfl, hb6⟩; replace HB := HB.trans hb6; clear hb6) | (go_at_call 19; refine (kpre _).mono ?_; rintro e w7 ⟨rfl, hb7⟩; replace HB := HB.trans hb7; clear hb7) | (go_at_call 9; refine (hal _).mono ?_; rintro e w8 ⟨rfl, hb8⟩; replace HB := HB.trans hb8; clear hb8))
          go_returns
          exact ⟨rfl, HB⟩
        | true =>
          have hc := hboth rfl rfl
          rw [← hc] at hless
          have hle : Op.bytesLess a0.toList a1.toList = false := by rw [hless]; rfl
          clear hless hboth hc
          have hsz : ¬ 9223372036854775807 < a0.size + a1.size := by omega
          by_cases hE : bt a1 = []
          · have hemp : a1.toList = [] := (text_nil a1).2 hE
            rw [hemp] at hle
            go_wp2_with (first | (go_at_call_of 12 a0; refine (ra _).mono ?_; rintro e w5 ⟨rfl, hb5⟩; replace HB := HB.trans hb5; clear hb5) | (go_at_call_of 12 a1; refine (rb _).mono ?_; rintro e w6 ⟨rfl, hb6⟩; replace HB := HB.trans hb6; clear hb6) | (go_at_call 19; refine (kpre _).mono ?_; rintro e w7 ⟨rfl, hb7⟩; replace HB := HB.trans hb7; clear hb7) | (go_at_call 9; refine (hal _).mono ?_; rintro e w8 ⟨rfl, hb8⟩; replace HB := HB.trans hb8; clear hb8))
            go_returns
            exact ⟨rfl, HB⟩
          · have hemp : ¬ a1.toList = [] := fun h => hE ((text_nil a1).1 h)
            have hem2 : a1.toList.isEmpty = false := by simpa using hemp
            obtain rfl := hpre rfl hE
            go_wp2_with (first | (go_at_call_of 12 a0; refine (ra _).mono ?_; rintro e w5 ⟨rfl, hb5⟩; replace HB := HB.trans hb5; clear hb5) | (go_at_call_of 12 a1; refine (rb _).mono ?_; rintro e w6 ⟨rfl, hb6⟩; replace HB := HB.trans hb6; clear hb6) | (go_at_call 19; refine (kpre _).mono ?_; rintro e w7 ⟨rfl, hb7⟩; replace HB := HB.trans hb7; clear hb7) | (go_at_call 9; refine (hal _).mono ?_; rintro e w8 ⟨rfl, hb8⟩; replace HB := HB.trans hb8; clear hb8))
            go_returns
            exact ⟨rfl, HB⟩
  · go_enter Try.func5, Try.ntmps5
    go_upto_region 4 with (go_at_call 19; refine (kab _).mono ?_; rintro e w1 ⟨rfl, hb1⟩)
    have HB := hb1
    go_upto_region 6 with (first | (go_at_call_of 19 a2; go_at_call_of 19 a1; refine (kbc _).mono ?_; rintro e w3 ⟨rfl, hb3⟩; replace HB := HB.trans hb3; clear hb3) | (go_at_call_of 19 a2; go_at_call_of 19 a0; refine (kac _).mono ?_; rintro e w4 ⟨rfl, hb4⟩; replace HB := HB.trans hb4; clear hb4) | (go_at_call 19; refine (kba _).mono ?_; rintro e w2 ⟨rfl, hb2⟩; replace HB := HB.trans hb2; clear hb2))
    clear kab kba kbc kac htr
    cases q1 with
    | false =>
      go_wp2_with (first | (go_at_call_of 12 a0; refine (ra _).mono ?_; rintro e w5 ⟨rfl, hb5⟩; replace HB := HB.trans hb5; clear hb5) | (go_at_call_of 12 a1; refine (rb _).mono ?_; rintro e w6 ⟨rfl, hb6⟩; replace HB := HB.trans hb6; clear hb6) | (go_at_call 19; refine (kpre _).mono ?_; rintro e w7 ⟨rfl, hb7⟩; replace HB := HB.trans hb7; clear hb7) | (go_at_call 9; refine (hal _).mono ?_; rintro e w8 ⟨rfl, hb8⟩; replace HB := HB.trans hb8; clear hb8))
      go_returns
      exact ⟨rfl, HB⟩
    | true =>
      cases q2 with
      | false =>
        go_wp2_with (first | (go_at_call_of 12 a0; refine (ra _).mono ?_; rintro e w5 ⟨rfl, hb5⟩; replace HB := HB.trans hb5; clear hb5) | (go_at_call_of 12 a1; refine (rb _).mono ?_; rintro e w6 ⟨rfl, hb6⟩; replace HB := HB.trans hb6; clear hb6) | (go_at_call 19; refine (kpre _).mono ?_; rintro e w7 ⟨rfl, hb7⟩; replace HB := HB.trans hb7; clear hb7) | (go_at_call 9; refine (hal _).mono ?_; rintro e w8 ⟨rfl, hb8⟩; replace HB := HB.trans hb8; clear hb8))
        go_returns
        exact ⟨rfl, HB⟩
      | true =>
        have hc := hboth rfl rfl
        rw [← hc] at hless
        have hle : Op.bytesLess a0.toList a1.toList = false := by rw [hless]; rfl
        clear hless hboth hc
        have hsz : ¬ 9223372036854775807 < a0.size + a1.size := by omega
        by_cases hE : bt a1 = []
        · have hemp : a1.toList = [] := (text_nil a1).2 hE
          rw [hemp] at hle
          go_wp2_with (first | (go_at_call_of 12 a0; refine (ra _).mono ?_; rintro e w5 ⟨rfl, hb5⟩; replace HB := HB.trans hb5; clear hb5) | (go_at_call_of 12 a1; refine (rb _).mono ?_; rintro e w6 ⟨rfl, hb6⟩; replace HB := HB.trans hb6; clear hb6) | (go_at_call 19; refine (kpre _).mono ?_; rintro e w7 ⟨rfl, hb7⟩; replace HB := HB.trans hb7; clear hb7) | (go_at_call 9; refine (hal _).mono ?_; rintro e w8 ⟨rfl, hb8⟩; replace HB := HB.trans hb8; clear hb8))
          go_returns
          exact ⟨rfl, HB⟩
        · have hemp : ¬ a1.toList = [] := fun h => hE ((text_nil a1).1 h)
          have hem2 : a1.toList.isEmpty = false := by simpa using hemp
          obtain rfl := hpre rfl hE
          go_wp2_with (first | (go_at_call_of 12 a0; refine (ra _).mono ?_; rintro e w5 ⟨rfl, hb5⟩; replace HB := HB.trans hb5; clear hb5) | (go_at_call_of 12 a1; refine (rb _).mono ?_; rintro e w6 ⟨rfl, hb6⟩; replace HB := HB.trans hb6; clear hb6) | (go_at_call 19; refine (kpre _).mono ?_; rintro e w7 ⟨rfl, hb7⟩; replace HB := HB.trans hb7; clear hb7) | (go_at_call 9; refine (hal _).mono ?_; rintro e w8 ⟨rfl, hb8⟩; replace HB := HB.trans hb8; clear hb8))
          go_returns
          exact ⟨rfl, HB⟩

set_option maxRecDepth 100000 in
theorem lifted (os : Os) (started : os.Started) (H : Type) (enc : TypeId × Value → H) :
    ReturnsInHanded {} Try.checked os 5 .any (Rows.nameOrderSpec.pre6 enc Try.prog Try.f5 Rows.nameOrderRow.domain false) (Rows.nameOrderSpec.post enc Try.prog Try.f5 false true false false) := by
  refine returnsInHanded_of_change (C := Try.checked) own started (by kernel_rfl) Try.func5
    (ChangeSpec.witness6 (enc := enc) (C := Try.checked) false ⟨#[], #[.string ByteArray.empty, .string ByteArray.empty, .string ByteArray.empty], []⟩ 8 (by kernel_rfl) (by kernel_rfl) (by kernel_rfl) (by kernel_rfl)) ?_
  intro W base args ds gs before hval0 hW hcnd _
  have hval : ∀ (j : Nat) t v, Try.f5.params[j]? = some t → args[j]? = some v → Value.okWide Try.prog W .any base t v := hval0
  have hW' := hW
  obtain ⟨p, q, hA0, hV, rfl, hfz, hnd⟩ := hW
  have hA : DataW.TrodAll enc Try.prog W 0 (fun _ => true) true Try.f5.params.toList args.toList ds p := hA0
  rw [Try.params5] at hA hval
  obtain ⟨v0, vs0, d0, ds0, p0, q0, hargs, rfl, rfl, h0, r0⟩ := trodAll_cons hA
  obtain ⟨v1, vs1, d1, ds1, p1, q1, rfl, rfl, rfl, h1, r1⟩ := trodAll_cons r0
  obtain ⟨v2, vs2, d2, ds2, p2, q2, rfl, rfl, rfl, h2, r2⟩ := trodAll_cons r1
  obtain ⟨rfl, rfl, rfl⟩ := trodAll_nil r2
  obtain rfl : args = #[v0, v1, v2] := by cases args; simp_all
  obtain ⟨rfl, rfl⟩ := trodVars_none hV
  obtain ⟨a0, rfl, rfl, rfl, w0⟩ := open_string Try.underlying9 (hval 0 9 v0 rfl rfl) h0
  obtain ⟨a1, rfl, rfl, rfl, w1⟩ := open_string Try.underlying9 (hval 1 9 v1 rfl rfl) h1
  obtain ⟨a2, rfl, rfl, rfl, w2⟩ := open_string Try.underlying9 (hval 2 9 v2 rfl rfl) h2
  clear hA0 hval0
  simp only [List.append_nil] at hW'
  refine (walk a0 a1 a2 w0 w1 w2 W).mono fun e W' ⟨he, hg⟩ => ?_
  subst he
  exact ⟨_, rfl, post_nil hW' (fun _ _ _ => (trodAll_cons_mk (shut_bool Try.underlying4 _) trodAll_mk0)) (fun sp => (trodAll_cons_mk (shut_string Try.underlying9 w0) (trodAll_cons_mk (shut_string Try.underlying9 w1) (trodAll_cons_mk (shut_string Try.underlying9 w2) trodAll_mk0)))) (fun _ => rfl)
    hg (ok_one (by kernel_rfl) rfl (okWide_bool_mk Try.underlying4 _))⟩

theorem over : Rows.nameOrderRow.holds Try.pinned (OpenSpec.ofChange Rows.nameOrderSpec) :=
  OpenClaim.holds_of_wide 5 Try.f5 rfl rfl rfl rfl rfl rfl rfl ⟨rfl, rfl, rfl, rfl, rfl⟩ rfl rfl rfl rfl rfl (by kernel_rfl) Try.func5 (by kernel_rfl)
    (of_decide_eq_true (by kernel_rfl)) (by unfold Func.isWrapper; first | (rw [if_pos (by decide +kernel)]; kernel_rfl) | (rw [if_neg (by decide +kernel)]; exact ⟨rfl, rfl⟩))
    (fun os started H enc _ => lifted os started H enc)

theorem proved : Rows.NameOrderSaid :=
  over
end Go.Proofs.Ytkndkniimlckeaa.nameOrder
namespace Go.Proofs.Ytkndkniimlckeaa
theorem nameOrder_holds : Rows.NameOrderSaid :=
  nameOrder.proved
#print axioms nameOrder_holds
end Go.Proofs.Ytkndkniimlckeaa
