/- Towards the statements of package name (layer 9): the document's May and Words. -/
import Derived.Test.YtmcjmdoeafhjpaaNV
namespace Go.Proofs.Ytmcjmdoeafhjpaa
open Go.ChangeShapes Go.WideShapes Go.ChangeAt Go.RowKit
set_option linter.unusedVariables false
set_option linter.unusedSimpArgs false
set_option maxRecDepth 20000
def ldB (r : Nat) : Bool := letterB r || digitB r
theorem digit_no (r : Int) (h : digitB r = true) : letterB r = false := by
  unfold digitB at h
  simp at h
  unfold letterB
  rw [Bool.eq_false_iff]
  simp
  omega
def mayR (R : List Nat) : Bool := decide (1 ≤ R.length ∧ R.length ≤ 32) && R.all ldB && letterB (R.headD 0)
theorem may_R (l : List Nat) : mayM l = match allV l with | none => false | some R => mayR R := by
  unfold mayM allV
  cases ch l with
  | none => rfl
  | some C =>
    simp only [Option.map_some]
    unfold mayC mayR
    rw [List.length_map, List.all_map]
    cases C with
    | nil => rfl
    | cons c C => rfl
set_option maxHeartbeats 2000000 in
theorem rmay_any (s : ByteArray) (hs : s.size ≤ 1048576) (w : World) : Calls Try.prog 19 #[.string s] w fun e w' => e = .returned (.bool (mayM (bt s))) ∧ Bl w w' := by
  have ka := fun W => all_any s hs W
  rw [may_R]
  cases ho : allV (bt s) with
  | none =>
    rw [ho] at ka
    dsimp only
    go_enter Try.func19, Try.ntmps19
    go_wp2_with (first | (go_at_call 51; refine (ka _).mono ?_; rintro e w1 ⟨⟨he, -⟩, hb⟩; obtain rfl := he rfl))
    go_returns
    exact ⟨rfl, hb⟩
  | some R =>
    rw [ho] at ka
    dsimp only
    clear ho
    have ka2 : ∀ W, Calls Try.prog 51 #[.string s] W fun e w' => ∃ p c, e = .returned (.tuple #[.slice p R.length c, .bool true]) ∧ IRow w' (.slice p R.length c) R ∧ Bl W w' := fun W => (ka W).mono fun e w' h => by
      obtain ⟨v, rfl, hv⟩ := h.1.2 R rfl
      obtain ⟨p, c, rfl⟩ := hv.shape
      exact ⟨p, c, rfl, hv, h.2⟩
    clear ka
    by_cases h1 : R.length < 1
    · have d1 : decide ((R.length : Int) < 1) = true := by simp; omega
      have e3 : mayR R = false := by
        have : ¬ (1 ≤ R.length ∧ R.length ≤ 32) := by omega
        simp [mayR, this]
      rw [e3]
      go_enter Try.func19, Try.ntmps19
      go_wp2_with (first | (go_at_call 51; refine (ka2 _).mono ?_; rintro e w1 ⟨p, c, rfl, hI, hb⟩))
      go_returns
      exact ⟨rfl, hb⟩
    have d1 : decide ((R.length : Int) < 1) = false := by simp; omega
    by_cases h2 : 32 < R.length
    · have d2 : decide ((32 : Int) < R.length) = true := by simp; omega
      have e3 : mayR R = false := by
        have : ¬ (1 ≤ R.length ∧ R.length ≤ 32) := by omega
        simp [mayR, this]
      rw [e3]
      go_enter Try.func19, Try.ntmps19
      go_wp2_with (first | (go_at_call 51; refine (ka2 _).mono ?_; rintro e w1 ⟨p, c, rfl, hI, hb⟩))
      go_returns
      exact ⟨rfl, hb⟩
    have d2 : decide ((32 : Int) < R.length) = false := by simp; omega
    obtain ⟨r0, hr0⟩ : ∃ r0, R[0]? = some r0 := ⟨R[0]'(by omega), List.getElem?_eq_getElem _⟩
    have hhd : R.headD 0 = r0 := by cases R with | nil => cases hr0 | cons a t => simpa using hr0
    have hmay : mayR R = (R.all ldB && letterB r0) := by
      rw [mayR, hhd, decide_eq_true (by omega), Bool.true_and]
    have hp1 : 0 < R.length := by omega
    have hp2 : decide ((0 : Int) < R.length) = true := by simp; omega
    have kd0 := fun W => rdigit_any r0 W
    rw [hmay]
    cases hd0 : digitB r0 with
    | true =>
      rw [hd0] at kd0
      have e3 : (R.all ldB && letterB r0) = false := by rw [digit_no r0 hd0, Bool.and_false]
      rw [e3]
      go_enter Try.func19, Try.ntmps19
      go_wp2_with (first | (go_at_call 51; refine (ka2 _).mono ?_; rintro e w1 ⟨p, c, rfl, hI, hb⟩; obtain ⟨g, rfl, c0, -, hg⟩ := hI.get hr0) | (go_at_call 52; refine (kd0 _).mono ?_; rintro e w2 ⟨rfl, rfl⟩))
      go_returns
      exact ⟨rfl, hb⟩
    | false =>
      rw [hd0] at kd0
      have hmem0 : r0 ∈ R := List.mem_of_getElem? hr0
      have hgood : R.all ldB = true → (R.all ldB && letterB r0) = true := fun h => by
        have := List.all_eq_true.1 h r0 hmem0
        rw [ldB, hd0, Bool.or_false] at this
        rw [h, this]; rfl
      have hbad : R.all ldB = false → (R.all ldB && letterB r0) = false := fun h => by rw [h]; rfl
      generalize (R.all ldB && letterB r0) = ans at hgood hbad
      clear hmay hhd hmem0
      go_enter Try.func19, Try.ntmps19
      go_upto_region 4 with (first | (go_at_call 51; refine (ka2 _).mono ?_; rintro e w1 ⟨p, c, rfl, hI, hb⟩; obtain ⟨g, rfl, c0, -, hg⟩ := hI.get hr0) | (go_at_call 52; refine (kd0 _).mono ?_; rintro e w2 ⟨rfl, rfl⟩))
      have hI' := hI
      generalize hW1 : w2 = W1 at hI hI' hb hg c0 ⊢
      clear c0
      go_wp2
      go_loopw [5] (fun i wr => ∃ k : Nat, i = .int .i64 k ∧ k ≤ R.length ∧ (∀ x ∈ R.take k, ldB x = true) ∧ wr = W1) (fun i _ => R.length - (intOf i).toNat)
      case atStart => exact ⟨0, rfl, by omega, by simp, rfl⟩
      case round =>
        obtain ⟨k, rfl, hk, hall, rfl⟩ := hrel
        by_cases hlt : k < R.length
        · obtain ⟨x, hx⟩ : ∃ x, R[k]? = some x := ⟨R[k], by simp [hlt]⟩
          obtain ⟨g', hg', cx, _, _⟩ := hI.get hx
          cases hg'
          have hd7 : decide ((k : Int) < R.length) = true := by simp; omega
          have hd8 : decide ((0 : Int) ≤ (k : Int) ∧ (k : Int) < (R.length : Int)) = true := by simp; omega
          have e1 : IntKind.i64.wrap ((k : Int) + 1) = (k : Int) + 1 := IntWalk.i64_in _ (by omega)
          have kl := fun W => rletter_any x W
          have kd := fun W => rdigit_any x W
          have hnext : ldB x = true → ∀ y ∈ R.take (k + 1), ldB y = true := fun h y hy => by
            have hl := List.getElem?_eq_some_iff.1 hx
            rw [List.take_succ_eq_append_getElem hl.1, hl.2] at hy
            rcases List.mem_append.1 hy with hy | hy
            · exact hall y hy
            · rw [List.mem_singleton.1 hy]; exact h
          have hno : ldB x = false → ans = false := fun h => hbad (by
            rw [Bool.eq_false_iff]
            intro h2
            have := List.all_eq_true.1 h2 x (List.mem_of_getElem? hx)
            rw [h] at this; cases this)
          rw [ldB] at hnext hno
          clear hall hx
          cases hq1 : letterB (x : Int) with
          | true =>
            rw [hq1] at kl hnext
            have hn2 := hnext rfl
            clear hnext hno
            go_wp2_with (first | (go_at_call 53; refine (kl _).mono ?_; rintro e w3 ⟨rfl, rfl⟩) | (go_at_call 52; refine (kd _).mono ?_; rintro e w4 ⟨rfl, rfl⟩))
            exact ⟨⟨k + 1, by simp, by omega, hn2, by first | rfl | trivial⟩, by simp [intOf]; omega⟩
          | false =>
            cases hq2 : digitB (x : Int) with
            | true =>
              rw [hq1] at kl hnext
              rw [hq2] at kd hnext
              have hn2 := hnext rfl
              clear hnext hno
              go_wp2_with (first | (go_at_call 53; refine (kl _).mono ?_; rintro e w3 ⟨rfl, rfl⟩) | (go_at_call 52; refine (kd _).mono ?_; rintro e w4 ⟨rfl, rfl⟩))
              exact ⟨⟨k + 1, by simp, by omega, hn2, by first | rfl | trivial⟩, by simp [intOf]; omega⟩
            | false =>
              rw [hq1] at kl hno
              rw [hq2] at kd hno
              obtain rfl := hno rfl
              clear hnext
              go_wp2_with (first | (go_at_call 53; refine (kl _).mono ?_; rintro e w3 ⟨rfl, rfl⟩) | (go_at_call 52; refine (kd _).mono ?_; rintro e w4 ⟨rfl, rfl⟩))
              try rw [Exit.noGoto_ret]
              go_returns
              exact ⟨rfl, hb⟩
        · have hd7 : decide ((k : Int) < R.length) = false := by simp; omega
          obtain rfl : ans = true := hgood (by
            rw [List.all_eq_true]
            intro x hx
            refine hall x ?_
            rw [List.take_of_length_le (by omega)]; exact hx)
          go_wp2
          go_returns
          exact ⟨rfl, hb⟩
end Go.Proofs.Ytmcjmdoeafhjpaa
