/- Regions of open order inside a fence, by what holds whatever has been done: one step for each operation serves every order. -/
import Derived.Test.YthgpbbpmfpfjnaaTN
namespace Go.Proofs.Ythgpbbpmfpfjnaa.T
set_option linter.unusedVariables false
set_option linter.unusedSimpArgs false
/-- One more operation is listed. -/
def updZ (L : Nat → Bool) (i : Nat) : Nat → Bool := fun j => if j = i then true else L j
theorem updZ_same (L : Nat → Bool) (i : Nat) : updZ L i i = true := by simp [updZ]
theorem updZ_other (L : Nat → Bool) {i j : Nat} (h : j ≠ i) : updZ L i j = L j := by simp [updZ, h]
def allOpsF (S : Nat → Oper → Prop) : Nat → List Oper → Prop
  | _, [] => True
  | k, o :: t => S k o ∧ allOpsF S (k + 1) t
theorem allOpsF_get {S : Nat → Oper → Prop} : ∀ (l : List Oper) (k i : Nat) (o : Oper), allOpsF S k l → l[i]? = some o → S (k + i) o
  | [], _, _, _, _, h => by simp at h
  | p :: t, k, 0, o, h, ho => by simp at ho; subst ho; exact h.1
  | p :: t, k, i + 1, o, h, ho => by
    have := allOpsF_get t (k + 1) i o h.2 (by simpa using ho)
    rwa [Nat.add_assoc, Nat.add_comm 1 i] at this
theorem allOpsF_cons {S : Nat → Oper → Prop} (k : Nat) {o : Oper} {t : List Oper} (h : S k o) (ht : allOpsF S (k + 1) t) : allOpsF S k (o :: t) := ⟨h, ht⟩
theorem allOpsF_nil {S : Nat → Oper → Prop} (k : Nat) : allOpsF S k [] := trivial
def unlF (n : Nat) (L : Nat → Bool) : Nat := ((List.range n).filter fun i => !L i).length
theorem unlF_updZ {n i : Nat} {L : Nat → Bool} (hi : i < n) (h : L i = false) : unlF n (updZ L i) + 1 = unlF n L := by
  unfold unlF
  induction n with
  | zero => omega
  | succ n ih =>
    rw [List.range_succ, List.filter_append, List.filter_append, List.length_append, List.length_append]
    by_cases hin : i = n
    · subst hin
      have e : (List.range i).filter (fun j => !updZ L i j) = (List.range i).filter (fun j => !L j) := by
        apply List.filter_congr
        intro j hj
        rw [updZ_other L (by have := List.mem_range.1 hj; omega)]
      rw [e]
      simp [updZ_same, h]
    · have := ih (by omega)
      simp only [List.filter_cons, List.filter_nil, updZ_other L (show n ≠ i from fun h => hin h.symm)]
      omega
/-- Each operation waits for earlier ones alone. -/
def backF (md : Region.Mode) : Nat → List Oper → Bool
  | _, [] => true
  | k, o :: t => (o.after.all fun e => !Region.binds md e || decide (e.on < k)) && backF md (k + 1) t
theorem backF_get {md : Region.Mode} : ∀ (l : List Oper) (k i : Nat) (o : Oper), backF md k l = true → l[i]? = some o → ∀ e ∈ o.after, Region.binds md e = true → e.on < k + i
  | [], _, _, _, _, h => by simp at h
  | p :: t, k, 0, o, h, ho => by
    simp at ho; subst ho
    simp only [backF, Bool.and_eq_true] at h
    intro e he hb
    have := (Array.all_eq_true_iff_forall_mem.1 h.1) e he
    simp [hb] at this
    omega
  | p :: t, k, i + 1, o, h, ho => by
    simp only [backF, Bool.and_eq_true] at h
    intro e he hb
    have := backF_get t (k + 1) i o h.2 (by simpa using ho) e he hb
    omega
/-- Those that an operation waits for have been. -/
def edgesF (md : Region.Mode) (L : Nat → Bool) : List Edge → Prop
  | [] => True
  | e :: t => (Region.binds md e = true → L e.on = true) ∧ edgesF md L t
theorem edgesF_of {md : Region.Mode} {L : Nat → Bool} : ∀ (l : List Edge), (∀ e ∈ l, Region.binds md e = true → L e.on = true) → edgesF md L l
  | [], _ => trivial
  | e :: t, h => ⟨h e (by simp), edgesF_of t (fun e' he' => h e' (by simp [he']))⟩
theorem edgesF_mono {md : Region.Mode} {L L' : Nat → Bool} (hh : ∀ i, L i = true → L' i = true) : ∀ (l : List Edge), edgesF md L l → edgesF md L' l
  | [], _ => trivial
  | e :: t, h => ⟨fun b => hh _ (h.1 b), edgesF_mono hh t h.2⟩
def selF {α : Type} (b : Bool) (x y : α) : α := match b with
  | true => x
  | false => y
theorem selF_true {α : Type} (x y : α) : selF true x y = x := rfl
/-- The frame is that one, and so much holds. -/
def FrF (a b : Act) (p : Prop) : Prop := a = b ∧ p
/-- Whoever has been, those that it waits for have been. -/
def ClosedF (md : Region.Mode) (l : List Oper) (L : Nat → Bool) : Prop := ∀ i o, l[i]? = some o → L i = true → edgesF md L o.after.toList

section
variable {F : Fence} {n : Nat} {P : Program} {md : Region.Mode} {Q : Exit → Act → World → Prop} {l : List Oper}
def KeepsInvF (F : Fence) (n : Nat) (P : Program) (md : Region.Mode) (l : List Oper) (Q : Exit → Act → World → Prop) (I : (Nat → Bool) → Act → World → Prop) (i : Nat) (o : Oper) : Prop :=
  ∀ (L : Nat → Bool) (a : Act) (w : World), L i = false → edgesF md L o.after.toList → ClosedF md l L → I L a w →
    if Region.wanted o (yielded l.toArray a.tmps) then o.wpIn F n P a w (I (updZ L i)) Q else (∀ f, o.about P w a.eval = some f → F.fn f) ∧ I (updZ L i) (a.put o.dst undef) w

theorem wpAnyIn_inv (I : (Nat → Bool) → Act → World → Prop) (hb : backF md 0 l = true) (step : allOpsF (KeepsInvF F n P md l Q I) 0 l)
    (fin : ∀ L a w, (∀ i, i < l.length → L i = true) → I L a w → Q .normal a w) :
    ∀ (fuel : Nat) (listed : Array Bool) (L : Nat → Bool) (a : Act) (w : World), listed.size = l.length → (∀ i, i < l.length → listed[i]? = some (L i)) → ClosedF md l L → unlF l.length L ≤ fuel → I L a w → wpAnyIn F n P md l.toArray Q fuel listed a w := by
  have hempty : ∀ (listed : Array Bool) (L : Nat → Bool), listed.size = l.length → (∀ i, i < l.length → listed[i]? = some (L i)) → Region.ready md l.toArray listed = [] → ∀ i, i < l.length → L i = true := by
    intro listed L hsz hl hr i
    induction i using Nat.strongRecOn with
    | _ i ih =>
      intro hi
      cases hLi : L i with
      | true => rfl
      | false =>
        exfalso
        have : i ∈ Region.ready md l.toArray listed := by
          rw [mem_ready]
          refine ⟨by simp [hl i hi, hLi], l[i], by simp [hi], ?_⟩
          intro e he hbd
          have hlt := backF_get l 0 i l[i] hb (by simp [hi]) e he hbd
          rw [Nat.zero_add] at hlt
          have := ih e.on hlt (by omega)
          simp [hl e.on (by omega), this]
        rw [hr] at this
        cases this
  intro fuel
  induction fuel with
  | zero =>
    intro listed L a w hsz hl hcl hu hI
    have hall : ∀ i, i < l.length → L i = true := by
      intro i hi
      cases hLi : L i with
      | true => rfl
      | false =>
        exfalso
        have := unlF_updZ hi hLi
        omega
    refine ⟨?_, fin L a w hall hI⟩
    cases hr : Region.ready md l.toArray listed with
    | nil => rfl
    | cons i t =>
      exfalso
      have hm : i ∈ Region.ready md l.toArray listed := by rw [hr]; exact List.mem_cons_self
      obtain ⟨h0, o, ho, -⟩ := mem_ready.1 hm
      have hi : i < l.length := by
        rcases Nat.lt_or_ge i l.length with h | h
        · exact h
        · simp [h] at ho
      simp [hl i hi, hall i hi] at h0
  | succ fuel ih =>
    intro listed L a w hsz hl hcl hu hI
    refine ⟨fun hr => fin L a w (hempty listed L hsz hl hr) hI, fun i hm => ?_⟩
    obtain ⟨h0, o, ho, haft⟩ := mem_ready.1 hm
    have hi : i < l.length := by
      rcases Nat.lt_or_ge i l.length with h | h
      · exact h
      · simp [h] at ho
    have hLi : L i = false := by simpa [hl i hi] using h0
    have hk := allOpsF_get l 0 i o step (by simpa using ho)
    rw [Nat.zero_add] at hk
    have hed : edgesF md L o.after.toList := edgesF_of _ fun e he hbd => by
      have he := Array.mem_toList_iff.1 he
      have h1 := haft e he hbd
      have hlt := backF_get l 0 i o hb (by simpa using ho) e he hbd
      rw [Nat.zero_add] at hlt
      simpa [hl e.on (by omega)] using h1
    have hh := hk L a w hLi hed hcl hI
    have hup : ∀ j, L j = true → updZ L i j = true := fun j hj => by unfold updZ; split <;> first | rfl | exact hj
    have hcl' : ClosedF md l (updZ L i) := fun j o' ho' hj => by
      by_cases hji : j = i
      · subst hji
        have : o' = o := by have h3 : l[j]? = some o := by simpa using ho
                            rw [h3] at ho'; cases ho'; rfl
        subst this
        exact edgesF_mono hup _ hed
      · rw [updZ_other L hji] at hj
        exact edgesF_mono hup _ (hcl j o' ho' hj)
    have go : ∀ a' w', I (updZ L i) a' w' → wpAnyIn F n P md l.toArray Q fuel (listed.setIfInBounds i true) a' w' := fun a' w' hI' => by
      refine ih _ (updZ L i) a' w' (by simpa using hsz) (fun j hj => ?_) hcl' (by have := unlF_updZ hi hLi; omega) hI'
      by_cases hij : i = j
      · subst hij; rw [updZ_same]; simp [hsz, hi]
      · rw [updZ_other L (fun h => hij h.symm), Array.getElem?_setIfInBounds_ne hij]; exact hl j hj
    unfold wpOpIn
    simp only [ho]
    split
    · rename_i hw
      simp only [hw, if_true] at hh
      exact Oper.wpIn_mono go hh
    · rename_i hw
      simp only [hw] at hh
      exact ⟨hh.1, go _ _ hh.2⟩

/-- **A region of open order inside a fence, by what holds whatever has been done.** -/
theorem wpIn_region_inv {id : Nat} {a : Act} {w : World} (hm : P.follows .mixedOrders = true) (I : (Nat → Bool) → Act → World → Prop) (hb : backF .any 0 l = true)
    (h0 : I (fun _ => false) a w.drew) (step : allOpsF (KeepsInvF F n P .any l Q I) 0 l) (fin : ∀ L a w, (∀ i, i < l.length → L i = true) → I L a w → Q .normal a w) : (Code.region id l.toArray true).wpIn F n P Q a w := by
  refine wpIn_region_any hm ?_
  refine wpAnyIn_inv I hb step fin _ _ (fun _ => false) a _ (by simp) (fun i hi => by simp [hi]) (fun i o _ h => by cases h) ?_ h0
  unfold unlF
  refine Nat.le_trans (List.length_filter_le _ _) ?_
  simp
end
end Go.Proofs.Ythgpbbpmfpfjnaa.T
