/- Towards the statement CondTurned: a question that is turned tells the same of both, turned; its contrary, answered contrarily, the same. -/
import Derived.Test.YtcbcijibgpaipaaGreatCZ
namespace Go.Proofs.YtcbcijibgpaipaaGreat
open Go.ChangeShapes Go.WideShapes Go.ChangeAt Go.RowKit
open Tn (iv)
set_option linter.unusedVariables false
set_option linter.unusedSimpArgs false
theorem swap_swap (t : Option (Bd × Bd)) : swapM (swapM t) = t := by cases t <;> rfl
theorem ref_swap (t : Option (Bd × Bd)) : refM (swapM t) = swapM (refM t) := by
  cases t with
  | none => rfl
  | some p =>
    show (if nnB (syncM p.2) || nnB (syncM p.1) then none else some (syncM p.2, syncM p.1)) = swapM (if nnB (syncM p.1) || nnB (syncM p.2) then none else some (syncM p.1, syncM p.2))
    rw [Bool.or_comm]
    split <;> rfl
theorem rx_swap (t : Option (Bd × Bd)) : rx (swapM t) = ry t := by cases t <;> rfl
theorem ry_swap (t : Option (Bd × Bd)) : ry (swapM t) = rx t := by cases t <;> rfl
theorem some_swap (t : Option (Bd × Bd)) : (swapM t).isSome = t.isSome := by cases t <;> rfl
theorem mM_comm (a b : Bd) : meetM a b = meetM b a := by
  unfold meetM
  rw [meetX_comm a.tv, meetP_comm a b]
theorem eq_turn (wd : Bool) (a b : Bd) : eqM wd b a = swapM (eqM wd a b) := by
  unfold eqM
  cases wd with
  | true =>
    rw [if_pos rfl, if_pos rfl, mM_comm b a]
    rfl
  | false =>
    simp only [Bool.false_eq_true, if_false]
    rw [Bool.and_comm, meetP_comm b a]
    split <;> rfl
theorem clear_turn (wd : Bool) (a b : Bd) : clearM wd b a = swapM (clearM wd a b) := by
  unfold clearM
  cases knowM a 0#64 (~~~(ofT wd b.tv)) <;> cases knowM b 0#64 (~~~(ofT wd a.tv)) <;> rfl
theorem one_eq {v u : BitVec 64} (h1 : one1 v = true) (h2 : one1 u = true) (h : v &&& u ≠ 0#64) : v = u := by
  obtain ⟨k, hk, hv⟩ := one1_ok v h1
  obtain ⟨l, hl, hu⟩ := one1_ok u h2
  by_cases e : k = l
  · subst e
    ext i hi
    rw [hv i hi, hu i hi]
  · refine absurd ?_ h
    ext i hi
    rw [BitVec.getElem_and, hv i hi, hu i hi]
    by_cases e1 : i = k
    · have e2 : i ≠ l := fun e2 => e (e1 ▸ e2)
      simp [e2]
    · simp [e1]
theorem know_id {b : Bd} {v : BitVec 64} (h : v &&& b.tv = v) (g : b.tv &&& b.tm = 0#64) : knowM b v (~~~v) = some b := by
  have H : ∀ i (hi : i < 64), (v[i] && b.tv[i]) = v[i] := fun i hi => by rw [← BitVec.getElem_and, h]
  have G : ∀ i (hi : i < 64), (b.tv[i] && b.tm[i]) = false := fun i hi => by rw [← BitVec.getElem_and, g]; simp
  have e1 : Tn.meetX b.tv b.tm v (~~~v) = true := by
    unfold Tn.meetX
    refine beq_iff_eq.2 ?_
    ext i hi
    have h1 := H i hi
    have h2 := G i hi
    simp only [BitVec.getElem_and, BitVec.getElem_xor, BitVec.getElem_not, BitVec.getElem_or, BitVec.getElem_zero]
    revert h1 h2
    cases v[i] <;> cases b.tv[i] <;> cases b.tm[i] <;> decide
  have e2 : Tn.mtV b.tv b.tm v (~~~v) = b.tv := by
    unfold Tn.mtV
    rw [if_pos e1]
    ext i hi
    have h1 := H i hi
    have h2 := G i hi
    simp only [BitVec.getElem_and, BitVec.getElem_not, BitVec.getElem_or]
    revert h1 h2
    cases v[i] <;> cases b.tv[i] <;> cases b.tm[i] <;> decide
  have e3 : Tn.mtM b.tv b.tm v (~~~v) = b.tm := by
    unfold Tn.mtM
    rw [if_pos e1]
    ext i hi
    have h1 := H i hi
    have h2 := G i hi
    simp only [BitVec.getElem_and, BitVec.getElem_not]
    revert h1 h2
    cases v[i] <;> cases b.tv[i] <;> cases b.tm[i] <;> decide
  unfold knowM
  rw [if_pos e1, e2, e3]
theorem ofT_in (wd : Bool) (t : BitVec 64) : ofT wd t &&& t = ofT wd t := by
  cases wd with
  | true => exact BitVec.and_self
  | false =>
    show lowT t &&& t = lowT t
    unfold lowT
    generalize (1#64 <<< 32 - 1#64 : BitVec 64) = m
    ext i hi
    simp only [BitVec.getElem_and]
    cases t[i] <;> cases m[i] <;> rfl
theorem andM_comm (av am bv bm : BitVec 64) : Tn.andM av am bv bm = Tn.andM bv bm av am := by
  unfold Tn.andM
  rw [BitVec.and_comm (av ||| am), BitVec.and_comm av bv]
theorem set_turn (wd : Bool) (a b : Bd) (ga : a.tv &&& a.tm = 0#64) (gb : b.tv &&& b.tm = 0#64) : setM one1 wd b a = swapM (setM one1 wd a b) := by
  unfold setM
  rw [andM_comm (ofT wd b.tv), BitVec.and_comm (ofT wd b.tv)]
  by_cases h0 : ofT wd a.tv &&& ofT wd b.tv = 0#64 ∧ Tn.andM (ofT wd a.tv) (ofT wd a.tm) (ofT wd b.tv) (ofT wd b.tm) = 0#64
  · rw [if_pos h0, if_pos h0]
    rfl
  · rw [if_neg h0, if_neg h0]
    by_cases h1 : ofT wd a.tm = 0#64 ∧ one1 (ofT wd a.tv) = true
    · by_cases h2 : ofT wd b.tm = 0#64 ∧ one1 (ofT wd b.tv) = true
      · have hn : ofT wd a.tv &&& ofT wd b.tv ≠ 0#64 := fun e => h0 ⟨e, by
          unfold Tn.andM
          rw [h1.1, h2.1, BitVec.or_zero, BitVec.or_zero, e]
          simp⟩
        have e := one_eq h1.2 h2.2 hn
        rw [if_pos h2, if_pos h1]
        rw [know_id (by rw [← e]; exact ofT_in wd a.tv) ga, know_id (by rw [e]; exact ofT_in wd b.tv) gb]
        rfl
      · rw [if_neg h2, if_pos h1, if_pos h1]
        cases knowM b (ofT wd a.tv) (~~~(ofT wd a.tv)) <;> rfl
    · by_cases h2 : ofT wd b.tm = 0#64 ∧ one1 (ofT wd b.tv) = true
      · rw [if_pos h2, if_neg h1, if_pos h2]
        cases knowM a (ofT wd b.tv) (~~~(ofT wd b.tv)) <;> rfl
      · rw [if_neg h2, if_neg h1, if_neg h1, if_neg h2]
        rfl
section
variable {a b : Bd} {wd so : Bool} {c : Int}
theorem holds_turn (hc : codeM c) (h0 : c ≠ 0) (ga : Good a) (gb : Good b) : holdsM (Wd.turnV c) wd b a = swapM (holdsM c wd a b) := by
  rcases hc with rfl | rfl | rfl | rfl | rfl | rfl | rfl | rfl | rfl | rfl | rfl | rfl
  · exact absurd rfl h0
  · show holdsM 1 wd b a = _; rw [holds1, holds1]; exact eq_turn wd a b
  · show holdsM 10 wd b a = _; rw [holds10, holds2]
  · show holdsM 11 wd b a = _; rw [holds11, holds3]
  · show holdsM 4 wd b a = _; rw [holds4, holds4]; exact set_turn wd a b ga.t gb.t
  · show holdsM 5 wd b a = _; rw [holds5, holds5]; rfl
  · show holdsM 12 wd b a = _; rw [holds12, holds6]
  · show holdsM 13 wd b a = _; rw [holds13, holds7]
  · show holdsM 2 wd b a = _; rw [holds2, holds10, swap_swap]
  · show holdsM 3 wd b a = _; rw [holds3, holds11, swap_swap]
  · show holdsM 6 wd b a = _; rw [holds6, holds12, swap_swap]
  · show holdsM 7 wd b a = _; rw [holds7, holds13, swap_swap]
theorem tellT (c : Int) (a b : Bd) : tellM c wd true a b = holdsM c wd a b := by unfold tellM; rw [if_pos rfl]
theorem tellF {c : Int} (h0 : c ≠ 0) (h4 : c ≠ 4) (a b : Bd) : tellM c wd false a b = holdsM (Wd.otherV c) wd a b := by unfold tellM; rw [if_neg (by decide), if_neg h0, if_neg h4]
theorem tell4 (a b : Bd) : tellM 4 wd false a b = clearM wd a b := by unfold tellM; rw [if_neg (by decide), if_neg (by decide), if_pos rfl]
theorem turn_code (hc : codeM c) : codeM (Wd.turnV c) := by
  unfold codeM at *
  rcases hc with rfl | rfl | rfl | rfl | rfl | rfl | rfl | rfl | rfl | rfl | rfl | rfl <;> decide
theorem turn_facts (hc : codeM c) (h0 : c ≠ 0) : Wd.isturn c = true ∧ Wd.turnV c ≠ 0 ∧ (c ≠ 4 → Wd.turnV c ≠ 4 ∧ Wd.isother c = true ∧ Wd.otherV c ≠ 0 ∧ Wd.otherV c ≠ 4 ∧ Wd.otherV (Wd.otherV c) = c ∧ Wd.otherV (Wd.turnV c) = Wd.turnV (Wd.otherV c)) := by
  unfold codeM at hc
  rcases hc with rfl | rfl | rfl | rfl | rfl | rfl | rfl | rfl | rfl | rfl | rfl | rfl <;> first | exact absurd rfl h0 | decide
theorem tell_turn (hc : codeM c) (h0 : c ≠ 0) (ga : Good a) (gb : Good b) : tellM (Wd.turnV c) wd so b a = swapM (tellM c wd so a b) := by
  obtain ⟨-, f1, f2⟩ := turn_facts hc h0
  cases so with
  | true => rw [tellT, tellT]; exact holds_turn hc h0 ga gb
  | false =>
    by_cases h4 : c = 4
    · subst h4
      show tellM 4 wd false b a = _
      rw [tell4, tell4]
      exact clear_turn wd a b
    · obtain ⟨g1, -, g3, -, -, g6⟩ := f2 h4
      rw [tellF f1 g1, tellF h0 h4, g6]
      exact holds_turn (other_code hc h0 h4) g3 ga gb
theorem tell_other (hc : codeM c) (h0 : c ≠ 0) (h4 : c ≠ 4) : tellM (Wd.otherV c) wd (!so) a b = tellM c wd so a b := by
  obtain ⟨-, -, f2⟩ := turn_facts hc h0
  obtain ⟨-, -, g3, g4, g5, -⟩ := f2 h4
  cases so with
  | true => show tellM (Wd.otherV c) wd false a b = _; rw [tellF g3 g4, g5, tellT]
  | false => show tellM (Wd.otherV c) wd true a b = _; rw [tellT, tellF h0 h4]
end
end Go.Proofs.YtcbcijibgpaipaaGreat
