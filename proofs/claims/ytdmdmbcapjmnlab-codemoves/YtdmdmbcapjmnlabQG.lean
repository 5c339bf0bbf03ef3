/- Regions of open order that are quiet but for some operations at their end. -/
import Derived.Test.YtdmdmbcapjmnlabKY
namespace Go.Proofs.Ytdmdmbcapjmnlab
open Go.ChangeShapes Go.WideShapes Go.ChangeAt Go.RowKit
set_option linter.unusedVariables false
set_option maxRecDepth 20000
set_option linter.unusedSimpArgs false
section
variable {P : Program} {md : Region.Mode} {C : World → Prop} {Q : Exit → Act → World → Prop}
/-- One behind the other, none of them guarded. -/
def seqW (P : Program) (Q : Exit → Act → World → Prop) : List Oper → Act → World → Prop
  | [], a, w => Q .normal a w
  | o :: t, a, w => o.wp P a w (seqW P Q t) Q
def hasE (md : Region.Mode) (o : Oper) (i : Nat) : Bool := o.after.toList.any fun e => Region.binds md e && e.on == i
theorem hasE_spec {o : Oper} {i : Nat} (h : hasE md o i = true) : ∃ e ∈ o.after, Region.binds md e = true ∧ e.on = i := by
  obtain ⟨e, he, hh⟩ := List.any_eq_true.1 h
  simp only [Bool.and_eq_true, beq_iff_eq] at hh
  exact ⟨e, Array.mem_toList_iff.1 he, hh.1, hh.2⟩
/-- Each of these, numbered from k, waits for all ahead of it (by itself, or by one that it waits for), and is not guarded. -/
def tailB (md : Region.Mode) (all : List Oper) : Nat → List Oper → Bool
  | _, [] => true
  | k, o :: t => o.guard.isNone && (List.range k).all (fun i => hasE md o i || (List.range k).any fun j => decide (i < j) && ((all[j]?).map (fun p => hasE md p i)).getD false) && (o.after.all fun e => !Region.binds md e || decide (e.on < k)) && tailB md all (k + 1) t
theorem tailB_get {all : List Oper} : ∀ (s : List Oper) (k j : Nat) (o : Oper), tailB md all k s = true → s[j]? = some o →
    o.guard = none ∧ (∀ i, i < k + j → (∃ e ∈ o.after, Region.binds md e = true ∧ e.on = i) ∨ ∃ j', i < j' ∧ j' < k + j ∧ ∃ p, all[j']? = some p ∧ ∃ e ∈ p.after, Region.binds md e = true ∧ e.on = i) ∧ (∀ e ∈ o.after, Region.binds md e = true → e.on < k + j)
  | [], _, _, _, _, h => by simp at h
  | p :: t, k, 0, o, h, ho => by
    simp at ho; subst ho
    simp only [tailB, Bool.and_eq_true] at h
    obtain ⟨⟨⟨h1, h2⟩, h3⟩, -⟩ := h
    refine ⟨by simpa using h1, fun i hi => ?_, fun e he hb => ?_⟩
    · have := (List.all_eq_true.1 h2) i (List.mem_range.2 (by omega))
      rw [Bool.or_eq_true] at this
      rcases this with h | h
      · exact .inl (hasE_spec h)
      · obtain ⟨j', hj', hh⟩ := List.any_eq_true.1 h
        simp only [Bool.and_eq_true, decide_eq_true_eq] at hh
        have hj' := List.mem_range.1 hj'
        cases hp : all[j']? with
        | none => rw [hp] at hh; simp at hh
        | some q =>
          rw [hp] at hh
          exact .inr ⟨j', hh.1, by omega, q, hp, hasE_spec (by simpa using hh.2)⟩
    · have := (Array.all_eq_true_iff_forall_mem.1 h3) e he
      simp [hb] at this
      omega
  | p :: t, k, j + 1, o, h, ho => by
    simp only [tailB, Bool.and_eq_true] at h
    have := tailB_get t (k + 1) j o h.2 (by simpa using ho)
    rw [show k + 1 + j = k + (j + 1) by omega] at this
    exact this
/-- What an operation waits for, waits for, ..: all of it has been. -/
theorem all_listed {all : List Oper} {o : Oper} {k : Nat} {L : Nat → Prop} (hc : ∀ j p, j < k → all[j]? = some p → L j → ∀ e ∈ p.after, Region.binds md e = true → L e.on) (ho : ∀ e ∈ o.after, Region.binds md e = true → L e.on)
    (h : ∀ i, i < k → (∃ e ∈ o.after, Region.binds md e = true ∧ e.on = i) ∨ ∃ j', i < j' ∧ j' < k ∧ ∃ p, all[j']? = some p ∧ ∃ e ∈ p.after, Region.binds md e = true ∧ e.on = i) : ∀ i, i < k → L i := by
  have key : ∀ d i, i < k → k - i ≤ d → L i := by
    intro d
    induction d with
    | zero => intro i hi hd; omega
    | succ d ih =>
      intro i hi hd
      rcases h i hi with ⟨e, he, hb, rfl⟩ | ⟨j', h1, h2, p, hp, e, he, hb, rfl⟩
      · exact ho e he hb
      · exact hc j' p h2 hp (ih j' h2 (by omega)) e he hb
  exact fun i hi => key k i hi (by omega)
/-- Listed: just the first k. -/
def firstK (k n : Nat) (listed : Array Bool) : Prop := listed.size = n ∧ ∀ i, i < n → listed[i]? = some (decide (i < k))
theorem ready_tail {l s : List Oper} {j : Nat} {listed : Array Bool} (hb : backB md 0 l = true) (hs : tailB md (l ++ s) l.length s = true) (hj : j < s.length) (hl : firstK (l.length + j) (l ++ s).length listed) :
    Region.ready md (l ++ s).toArray listed = [l.length + j] := by
  obtain ⟨hz, hl⟩ := hl
  have hlen : (l ++ s).length = l.length + s.length := List.length_append
  have key : ∀ i, i < (l ++ s).length → ((!listed.getD i true && (((l ++ s).toArray[i]?).map (·.after.all fun e => !Region.binds md e || listed.getD e.on false)).getD false) = decide (i = l.length + j)) := by
    intro i hi
    have hli := hl i hi
    rcases Nat.lt_trichotomy i (l.length + j) with h | h | h
    · simp [hli, h, show ¬ i = l.length + j by omega]
    · subst h
      have hget : (l ++ s).toArray[l.length + j]? = some s[j] := by
        simp [List.getElem?_append_right, hj]
      obtain ⟨-, -, h3⟩ := tailB_get s l.length j s[j] hs (by simp [hj])
      rw [hget]
      simp only [hli, Option.map_some, Option.getD_some, decide_true]
      have hall : (s[j].after.all fun e => !Region.binds md e || listed.getD e.on false) = true := by
        rw [Array.all_eq_true_iff_forall_mem]
        intro e he
        cases hb : Region.binds md e with
        | false => simp
        | true =>
          have hlt := h3 e he hb
          have := hl e.on (by omega)
          simp [this, hlt]
      rw [hall]
      simp [hli]
    · obtain ⟨m, rfl⟩ : ∃ m, i = l.length + m := ⟨i - l.length, by omega⟩
      have hm : m < s.length := by omega
      have hget : (l ++ s).toArray[l.length + m]? = some s[m] := by
        simp [List.getElem?_append_right, hm]
      obtain ⟨-, h2, hback⟩ := tailB_get s l.length m s[m] hs (by simp [hm])
      have hno : (s[m].after.all fun e => !Region.binds md e || listed.getD e.on false) = false := by
        cases hc : (s[m].after.all fun e => !Region.binds md e || listed.getD e.on false) with
        | false => rfl
        | true =>
          have hall := all_listed (md := md) (all := l ++ s) (o := s[m]) (k := l.length + m) (L := fun i => i < l.length + j) (fun j' p hjk hp hLj e he hbd => ?_) (fun e he hbd => ?_) h2 (l.length + j) (by omega)
          · exact absurd hall (by omega)
          · by_cases hjl : j' < l.length
            · rw [List.getElem?_append_left hjl] at hp
              have := backB_get l 0 j' p hb hp e he hbd
              omega
            · obtain ⟨q, rfl⟩ : ∃ q, j' = l.length + q := ⟨j' - l.length, by omega⟩
              rw [List.getElem?_append_right (by omega)] at hp
              have := (tailB_get s l.length q p hs (by simpa using hp)).2.2 e he hbd
              omega
          · have h9 := (Array.all_eq_true_iff_forall_mem.1 hc) e he
            have hlt := hback e he hbd
            have hx := hl e.on (by omega)
            simp [hbd, hx] at h9
            exact h9
      rw [hget]
      simp only [Option.map_some, Option.getD_some, hno, Bool.and_false]
      simp
      omega
  unfold Region.ready
  have hsz : (l ++ s).toArray.size = (l ++ s).length := by simp
  rw [hsz]
  have e1 : (List.range (l ++ s).length).filter (fun i => !listed.getD i true && (((l ++ s).toArray[i]?).map (·.after.all fun e => !Region.binds md e || listed.getD e.on false)).getD false) = (List.range (l ++ s).length).filter (fun i => decide (i = l.length + j)) := by
    apply List.filter_congr
    intro i hi
    exact key i (List.mem_range.1 hi)
  rw [e1]
  have : ∀ (n m : Nat), m < n → (List.range n).filter (fun i => decide (i = m)) = [m] := by
    intro n
    induction n with
    | zero => intro m h; omega
    | succ n ih =>
      intro m h
      rw [List.range_succ, List.filter_append]
      by_cases hmn : m = n
      · subst hmn
        have : (List.range m).filter (fun i => decide (i = m)) = [] := by
          rw [List.filter_eq_nil_iff]
          intro a ha
          have := List.mem_range.1 ha
          simp
          omega
        rw [this]
        simp
      · rw [ih m (by omega)]
        simp [show ¬ n = m from fun h => hmn h.symm]
  exact this _ _ (by omega)
theorem wpAny_more1 {ops : Array Oper} : ∀ (f : Nat) (listed : Array Bool) (a : Act) (w : World), wpAny P md ops Q f listed a w → wpAny P md ops Q (f + 1) listed a w
  | 0, listed, a, w, h => ⟨fun _ => h.2, fun i hi => by rw [h.1] at hi; cases hi⟩
  | f + 1, listed, a, w, h => ⟨h.1, fun i hi => wpOp_mono (fun a w => wpAny_more1 f _ a w) (h.2 i hi)⟩
theorem wpAny_more {ops : Array Oper} : ∀ (k f : Nat) (listed : Array Bool) (a : Act) (w : World), wpAny P md ops Q f listed a w → wpAny P md ops Q (f + k) listed a w
  | 0, _, _, _, _, h => h
  | k + 1, f, listed, a, w, h => wpAny_more1 (f + k) listed a w (wpAny_more k f listed a w h)
theorem wpAny_tail {l s : List Oper} (hb : backB md 0 l = true) (hs : tailB md (l ++ s) l.length s = true) : ∀ (f j : Nat) (listed : Array Bool) (a : Act) (w : World), f = s.length - j → j ≤ s.length → firstK (l.length + j) (l ++ s).length listed → seqW P Q (s.drop j) a w → wpAny P md (l ++ s).toArray Q f listed a w := by
  intro f
  induction f with
  | zero =>
    intro j listed a w hf hj hl h
    have hj' : j = s.length := by omega
    subst hj'
    rw [List.drop_length] at h
    refine ⟨?_, h⟩
    cases hr : Region.ready md (l ++ s).toArray listed with
    | nil => rfl
    | cons i t =>
      exfalso
      have hm : i ∈ Region.ready md (l ++ s).toArray listed := by rw [hr]; exact List.mem_cons_self
      obtain ⟨h0, o, ho, -⟩ := mem_ready.1 hm
      have hi : i < (l ++ s).length := by
        rcases Nat.lt_or_ge i (l ++ s).length with h | h
        · exact h
        · rw [List.getElem?_toArray, List.getElem?_eq_none h] at ho; cases ho
      have := hl.2 i hi
      rw [List.length_append] at hi
      simp [this] at h0
      omega
  | succ f ih =>
    intro j listed a w hf hj hl h
    have hj' : j < s.length := by omega
    have hr := ready_tail hb hs hj' hl
    refine ⟨fun h0 => (by rw [hr] at h0; cases h0), fun i hi => ?_⟩
    rw [hr] at hi
    have hi : i = l.length + j := by simpa using hi
    subst hi
    have hget : (l ++ s).toArray[l.length + j]? = some s[j] := by
      simp [List.getElem?_append_right, hj']
    obtain ⟨hg, -, -⟩ := tailB_get s l.length j s[j] hs (by simp [hj'])
    unfold wpOp
    simp only [hget]
    have hw : Region.wanted s[j] (yielded (l ++ s).toArray a.tmps) = true := by unfold Region.wanted; rw [hg]
    rw [if_pos hw]
    rw [List.drop_eq_getElem_cons hj'] at h
    refine .inl (Oper.wp_mono (fun a' w' h' => ?_) h)
    refine ih (j + 1) _ a' w' (by omega) (by omega) ⟨by simpa using hl.1, fun i hi => ?_⟩ h'
    by_cases hij : l.length + j = i
    · subst hij
      have : l.length + j < listed.size := by rw [hl.1]; exact hi
      simp [this]
    · rw [Array.getElem?_setIfInBounds_ne hij, hl.2 i hi]
      congr 1
      rw [decide_eq_decide]
      omega
/-- A listing of the first part, seen in the whole. -/
def widen (listed : Array Bool) (m : Nat) : Array Bool := listed ++ Array.replicate m false
theorem getD_widen_lt {listed : Array Bool} {m i : Nat} (d : Bool) (h : i < listed.size) : (widen listed m).getD i d = listed.getD i d := by
  unfold widen
  simp [Array.getElem?_append_left h]
theorem wpAny_of_ql {l s : List Oper} (hg : l.all (fun o => o.guard.isNone) = true) (hb : backB md 0 l = true) (hs : tailB md (l ++ s) l.length s = true) {R : Act → Prop} (hR : ∀ a w, C w → R a → seqW P Q s a w) :
    ∀ (f : Nat) (listed : Array Bool) (a : Act) (w : World), listed.size = l.length → (∀ j p, l[j]? = some p → listed.getD j false = true → ∀ e ∈ p.after, Region.binds md e = true → listed.getD e.on false = true) → C w → wpAnyQ P md l.toArray C R f listed a → wpAny P md (l ++ s).toArray Q (f + s.length) (widen listed s.length) a w := by
  have hmem : ∀ (listed : Array Bool), listed.size = l.length → ∀ i, i < l.length → (i ∈ Region.ready md (l ++ s).toArray (widen listed s.length) ↔ i ∈ Region.ready md l.toArray listed) := by
    intro listed hz i hi
    rw [mem_ready, mem_ready, getD_widen_lt true (by omega)]
    have e : (l ++ s).toArray[i]? = l.toArray[i]? := by simp [List.getElem?_append_left hi]
    rw [e]
    constructor
    · rintro ⟨h0, o, ho, h⟩
      refine ⟨h0, o, ho, fun e' he hbd => ?_⟩
      have hlt := backB_get l 0 i o hb (by simpa using ho) e' he hbd
      have := h e' he hbd
      rwa [getD_widen_lt false (by omega)] at this
    · rintro ⟨h0, o, ho, h⟩
      refine ⟨h0, o, ho, fun e' he hbd => ?_⟩
      have hlt := backB_get l 0 i o hb (by simpa using ho) e' he hbd
      rw [getD_widen_lt false (by omega)]
      exact h e' he hbd
  have hdone : ∀ (listed : Array Bool), listed.size = l.length → Region.ready md l.toArray listed = [] → ∀ i, i < l.length → listed[i]? = some true := by
    intro listed hz hr i
    induction i using Nat.strongRecOn with
    | _ i ih =>
      intro hi
      have hi' : i < listed.size := by omega
      cases hLi : listed[i] with
      | true => simp [hi', hLi]
      | false =>
        exfalso
        have : i ∈ Region.ready md l.toArray listed := by
          rw [mem_ready]
          refine ⟨by simp [hi', hLi], l[i], by simp [hi], ?_⟩
          intro e he hbd
          have hlt := backB_get l 0 i l[i] hb (by simp [hi]) e he hbd
          rw [Nat.zero_add] at hlt
          have := ih e.on hlt (by omega)
          simp [this]
        rw [hr] at this
        cases this
  have hend : ∀ (f : Nat) (listed : Array Bool) (a : Act) (w : World), listed.size = l.length → C w → R a → Region.ready md l.toArray listed = [] → wpAny P md (l ++ s).toArray Q (s.length) (widen listed s.length) a w := by
    intro f listed a w hz hC hRa hr
    refine wpAny_tail hb hs s.length 0 _ a w (by omega) (by omega) ⟨?_, fun i hi => ?_⟩ (by simpa using hR a w hC hRa)
    · simp [widen, hz]
    · rw [List.length_append] at hi
      unfold widen
      by_cases h : i < l.length
      · rw [Array.getElem?_append_left (by omega), hdone listed hz hr i h]
        simp [h]
      · rw [Array.getElem?_append_right (by omega), hz, Array.getElem?_replicate, if_pos (by omega)]
        simp [h]
  have hset : ∀ (listed : Array Bool) (i : Nat), i < listed.size → (widen listed s.length).setIfInBounds i true = widen (listed.setIfInBounds i true) s.length := by
    intro listed i hi
    unfold widen
    rw [Array.setIfInBounds_append_left hi]
  intro f
  induction f with
  | zero =>
    intro listed a w hz hcl hC h
    rw [Nat.zero_add]
    exact hend 0 listed a w hz hC h.2 h.1
  | succ f ih =>
    intro listed a w hz hcl hC h
    by_cases hr : Region.ready md l.toArray listed = []
    · have := hend 0 listed a w hz hC (h.1 hr) hr
      rw [Nat.add_comm]
      exact wpAny_more (f + 1) _ _ _ _ this
    · obtain ⟨i0, hi0⟩ : ∃ i, i ∈ Region.ready md l.toArray listed := by
        cases hh : Region.ready md l.toArray listed with
        | nil => exact absurd hh hr
        | cons i t => exact ⟨i, by simp⟩
      have lt_of : ∀ i, i ∈ Region.ready md l.toArray listed → i < l.length := by
        intro i hi
        obtain ⟨-, o, ho, -⟩ := mem_ready.1 hi
        rcases Nat.lt_or_ge i l.length with h | h
        · exact h
        · simp [h] at ho
      rw [show f + 1 + s.length = (f + s.length) + 1 by omega]
      refine ⟨fun h0 => ?_, fun i hi => ?_⟩
      · have := (hmem listed hz i0 (lt_of i0 hi0)).2 hi0
        rw [h0] at this
        cases this
      · by_cases hil : i < l.length
        · have hi' := (hmem listed hz i hil).1 hi
          have hq := h.2 i hi'
          have hget : l.toArray[i]? = some l[i] := by simp [hil]
          have hget' : (l ++ s).toArray[i]? = some l[i] := by simp [List.getElem?_append_left hil, hil]
          have hgi : l[i].guard = none := by simpa using (List.all_eq_true.1 hg) l[i] (List.getElem_mem hil)
          have hw : ∀ y, Region.wanted l[i] y = true := fun y => by unfold Region.wanted; rw [hgi]
          unfold qOp at hq
          simp only [hget] at hq
          rw [if_pos (hw _)] at hq
          unfold wpOp
          simp only [hget']
          rw [if_pos (hw _), hset listed i (by omega)]
          refine .inl (Oper.wp_of_quiet hC (fun a' w' hC' hK => ih (listed.setIfInBounds i true) a' w' (by simpa using hz) ?_ hC' hK) hq)
          intro j p hp hj e he hbd
          by_cases hij : i = j
          · subst hij
            have hpi : p = l[i] := by simpa [hil] using hp.symm
            subst hpi
            obtain ⟨-, o', ho', haft⟩ := mem_ready.1 hi'
            have : o' = l[i] := by rw [hget] at ho'; exact (Option.some.inj ho').symm
            subst this
            exact getD_set_true (haft e he hbd)
          · rw [getD_set_ne false hij] at hj
            exact getD_set_true (hcl j p hp hj e he hbd)
        · exfalso
          obtain ⟨-, o, ho, haft⟩ := mem_ready.1 hi
          have his : i < (l ++ s).length := by
            rcases Nat.lt_or_ge i (l ++ s).length with h | h
            · exact h
            · rw [List.getElem?_toArray, List.getElem?_eq_none h] at ho; cases ho
          rw [List.length_append] at his
          obtain ⟨m, rfl⟩ : ∃ m, i = l.length + m := ⟨i - l.length, by omega⟩
          have ho' : s[m]? = some o := by
            rw [List.getElem?_toArray, List.getElem?_append_right (by omega)] at ho
            simpa using ho
          obtain ⟨-, h2, hback⟩ := tailB_get s l.length m o hs ho'
          have hi0l := lt_of i0 hi0
          have hall := all_listed (md := md) (all := l ++ s) (o := o) (k := l.length + m) (L := fun i => (widen listed s.length).getD i false = true) (fun j' p hjk hp hLj e he hbd => ?_) haft h2 i0 (by omega)
          · have h5 : (widen listed s.length).getD i0 false = true := hall
            rw [getD_widen_lt false (by omega)] at h5
            obtain ⟨h6, -⟩ := mem_ready.1 hi0
            have hi0' : i0 < listed.size := by omega
            simp [hi0'] at h5 h6
            rw [h5] at h6
            cases h6
          · have hLj : (widen listed s.length).getD j' false = true := hLj
            show (widen listed s.length).getD e.on false = true
            by_cases hjl : j' < l.length
            · rw [List.getElem?_append_left hjl] at hp
              have hlt := backB_get l 0 j' p hb hp e he hbd
              rw [getD_widen_lt false (by omega)] at hLj ⊢
              exact hcl j' p hp hLj e he hbd
            · exfalso
              have hsz : j' < (widen listed s.length).size := by simp [widen, hz]; omega
              have : (widen listed s.length)[j']? = some false := by
                unfold widen
                rw [Array.getElem?_append_right (by omega), hz, Array.getElem?_replicate, if_pos (by omega)]
              simp [this] at hLj
/-- **A region of open order whose operations are quiet, but for some at its end, each of which waits for all ahead of it.** -/
theorem wp_region_ql {id : Nat} {a : Act} {w : World} {l : List Oper} (s : List Oper) (hm : P.follows .mixedOrders = true) (hB : Region.lexB .any l.toArray = true) (hg : l.all (fun o => o.guard.isNone) = true) (hb : backB .any 0 l = true) (hs : tailB .any (l ++ s) l.length s = true) (hC : C w.drew)
    (h : wpQuiet P l.toArray C (fun a' => ∀ w', C w' → seqW P Q s a' w') l a) : (Code.region id (l ++ s).toArray true).wp P Q a w := by
  simp only [Region.lexB, Bool.and_eq_true] at hB
  refine wp_region_any hm ?_
  have h1 := wpAnyQ_lex (C := C) (md := .any) hB.1 l 0 (Array.replicate l.length false) a (by simp) (by simpa using hB.2) h
  have h2 := wpAny_of_ql (Q := Q) hg hb hs (fun a w hC h => h w hC) l.length (Array.replicate l.length false) a w.drew (by simp) (fun j p hp hj => by rw [Array.getD_eq_getD_getElem?, Array.getElem?_replicate] at hj; split at hj <;> simp at hj) hC h1
  have e1 : (l ++ s).toArray.size = l.length + s.length := by simp
  rw [e1]
  have e2 : widen (Array.replicate l.length false) s.length = Array.replicate (l.length + s.length) false := by
    unfold widen
    rw [Array.replicate_append_replicate]
  rw [e2] at h2
  exact h2
end
section
variable {P : Program} {ops : Array Oper} {Q : Exit → Act → World → Prop}
theorem wpOps_of_seq : ∀ (l : List Oper) (k : Nat) (a : Act) (w : World), (∀ j, l[j]? = ops[k + j]?) → l.all (fun o => o.guard.isNone) = true → seqW P Q l a w → wpOps P ops Q (List.range' k l.length) a w
  | [], _, a, w, _, _, h => h
  | o :: l, k, a, w, hl, hg, h => by
    have h0 : ops[k]? = some o := by simpa using (hl 0).symm
    have hl' : ∀ j, l[j]? = ops[k + 1 + j]? := fun j => by have := hl (j + 1); simpa [Nat.add_assoc, Nat.add_comm 1 j] using this
    simp only [List.all_cons, Bool.and_eq_true] at hg
    have hgo : o.guard = none := by simpa using hg.1
    rw [List.length_cons, List.range'_succ]
    unfold wpOps
    simp only [h0]
    have hw : Region.wanted o (yielded ops a.tmps) = true := by unfold Region.wanted; rw [hgo]
    rw [if_pos hw]
    exact .inl (Oper.wp_mono (fun a' w' h' => wpOps_of_seq l (k + 1) a' w' hl' hg.2 h') h)
/-- A region of the text's order, one operation behind the other. -/
theorem wp_region_seqW {id : Nat} {a : Act} {w : World} {l : List Oper} (hg : l.all (fun o => o.guard.isNone) = true) (h : seqW P Q l a w) : (Code.region id l.toArray false).wp P Q a w := by
  refine wp_region ?_
  have := wpOps_of_seq (P := P) (ops := l.toArray) (Q := Q) l 0 a w (by simp) hg h
  rw [List.range_eq_range']
  simpa using this
end
theorem wp_region_qln {P : Program} {C : World → Prop} {Q : Exit → Act → World → Prop} {id : Nat} {a : Act} {w : World} {L : List Oper} (n : Nat) (hm : P.follows .mixedOrders = true) (hB : Region.lexB .any (L.take n).toArray = true) (hg : (L.take n).all (fun o => o.guard.isNone) = true) (hb : backB .any 0 (L.take n) = true) (hs : tailB .any L (L.take n).length (L.drop n) = true) (hC : C w.drew)
    (h : wpQuiet P (L.take n).toArray C (fun a' => ∀ w', C w' → seqW P Q (L.drop n) a' w') (L.take n) a) : (Code.region id L.toArray true).wp P Q a w := by
  have e : L.take n ++ L.drop n = L := List.take_append_drop n L
  have k := wp_region_ql (id := id) (l := L.take n) (L.drop n) hm hB hg hb (by rw [e]; exact hs) hC h
  rw [e] at k
  exact k

/-- A region of open order whose calls make memory, quiet but for what stands behind its first n operations. -/
theorem wp_region_gn {P : Program} {Q : Exit → Act → World → Prop} {id : Nat} {a : Act} {w : World} {L : List Oper} (n : Nat) (hm : P.follows .mixedOrders = true) (hB : Region.lexB .any (L.take n).toArray = true) (hg : (L.take n).all (fun o => o.guard.isNone) = true) (hb : backB .any 0 (L.take n) = true) (hs : tailB .any L (L.take n).length (L.drop n) = true)
    (h : wpQuiet P (L.take n).toArray (fun w' => ∃ p : GrBy w, w' = p.to) (fun a' => ∀ w', (∃ p : GrBy w, w' = p.to) → seqW P Q (L.drop n) a' w') (L.take n) a) : (Code.region id L.toArray true).wp P Q a w :=
  wp_region_qln n hm hB hg hb hs ⟨⟨w.drew, ⟨by go_grown, by go_grown⟩⟩, rfl⟩ h
end Go.Proofs.Ytdmdmbcapjmnlab
