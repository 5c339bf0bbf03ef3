/- Regions of open order, by what holds whatever has been done: one step for each operation serves every order; operations as one step each. -/
import Derived.Test.YtdmdmbcapjmnlabKD
import Derived.Deep.Quiet
namespace Go.Proofs.Ytdmdmbcapjmnlab
open Go.ChangeShapes Go.WideShapes Go.ChangeAt Go.RowKit
set_option linter.unusedVariables false
set_option maxRecDepth 20000
set_option linter.unusedSimpArgs false
/-- One more operation is listed. -/
def upd (L : Nat → Bool) (i : Nat) : Nat → Bool := fun j => if j = i then true else L j
theorem upd_same (L : Nat → Bool) (i : Nat) : upd L i i = true := by simp [upd]
theorem upd_other (L : Nat → Bool) {i j : Nat} (h : j ≠ i) : upd L i j = L j := by simp [upd, h]

/-- Every operation of the list, with its number. -/
def allOps (S : Nat → Oper → Prop) : Nat → List Oper → Prop
  | _, [] => True
  | k, o :: t => S k o ∧ allOps S (k + 1) t
theorem allOps_get {S : Nat → Oper → Prop} : ∀ (l : List Oper) (k i : Nat) (o : Oper), allOps S k l → l[i]? = some o → S (k + i) o
  | [], _, _, _, _, h => by simp at h
  | p :: t, k, 0, o, h, ho => by simp at ho; subst ho; exact h.1
  | p :: t, k, i + 1, o, h, ho => by
    have := allOps_get t (k + 1) i o h.2 (by simpa using ho)
    rwa [Nat.add_assoc, Nat.add_comm 1 i] at this

theorem allOps_cons {S : Nat → Oper → Prop} (k : Nat) {o : Oper} {t : List Oper} (h : S k o) (ht : allOps S (k + 1) t) : allOps S k (o :: t) := ⟨h, ht⟩
theorem allOps_nil {S : Nat → Oper → Prop} (k : Nat) : allOps S k [] := trivial

def unl (n : Nat) (L : Nat → Bool) : Nat := ((List.range n).filter fun i => !L i).length
theorem unl_upd {n i : Nat} {L : Nat → Bool} (hi : i < n) (h : L i = false) : unl n (upd L i) + 1 = unl n L := by
  unfold unl
  induction n with
  | zero => omega
  | succ n ih =>
    rw [List.range_succ, List.filter_append, List.filter_append, List.length_append, List.length_append]
    by_cases hin : i = n
    · subst hin
      have e : (List.range i).filter (fun j => !upd L i j) = (List.range i).filter (fun j => !L j) := by
        apply List.filter_congr
        intro j hj
        rw [upd_other L (by have := List.mem_range.1 hj; omega)]
      rw [e]
      simp [upd_same, h]
    · have := ih (by omega)
      simp only [List.filter_cons, List.filter_nil, upd_other L (show n ≠ i from fun h => hin h.symm)]
      omega

/-- Each operation waits for earlier ones alone. -/
def backB (md : Region.Mode) : Nat → List Oper → Bool
  | _, [] => true
  | k, o :: t => (o.after.all fun e => !Region.binds md e || decide (e.on < k)) && backB md (k + 1) t
theorem backB_get {md : Region.Mode} : ∀ (l : List Oper) (k i : Nat) (o : Oper), backB md k l = true → l[i]? = some o → ∀ e ∈ o.after, Region.binds md e = true → e.on < k + i
  | [], _, _, _, _, h => by simp at h
  | p :: t, k, 0, o, h, ho => by
    simp at ho; subst ho
    simp only [backB, Bool.and_eq_true] at h
    intro e he hb
    have := (Array.all_eq_true_iff_forall_mem.1 h.1) e he
    simp [hb] at this
    omega
  | p :: t, k, i + 1, o, h, ho => by
    simp only [backB, Bool.and_eq_true] at h
    intro e he hb
    have := backB_get t (k + 1) i o h.2 (by simpa using ho) e he hb
    omega

/-- Those that an operation waits for have been. -/
def edgesOn (md : Region.Mode) (L : Nat → Bool) : List Edge → Prop
  | [] => True
  | e :: t => (Region.binds md e = true → L e.on = true) ∧ edgesOn md L t
theorem edgesOn_of {md : Region.Mode} {L : Nat → Bool} : ∀ (l : List Edge), (∀ e ∈ l, Region.binds md e = true → L e.on = true) → edgesOn md L l
  | [], _ => trivial
  | e :: t, h => ⟨h e (by simp), edgesOn_of t (fun e' he' => h e' (by simp [he']))⟩
/-- The one or the other. -/
def sel {α : Type} (b : Bool) (x y : α) : α := match b with
  | true => x
  | false => y

section
variable {P : Program} {md : Region.Mode} {Q : Exit → Act → World → Prop} {l : List Oper}

/-- What is asked of one operation: whatever has been done, if those that it waits for have been, it keeps what holds. -/
def KeepsInv (P : Program) (md : Region.Mode) (l : List Oper) (Q : Exit → Act → World → Prop) (I : (Nat → Bool) → Act → World → Prop) (i : Nat) (o : Oper) : Prop :=
  ∀ (L : Nat → Bool) (a : Act) (w : World), L i = false → edgesOn md L o.after.toList → I L a w →
    if Region.wanted o (yielded l.toArray a.tmps) then o.wp P a w (I (upd L i)) Q else I (upd L i) (a.put o.dst undef) w

theorem wpAny_inv (I : (Nat → Bool) → Act → World → Prop) (hb : backB md 0 l = true) (step : allOps (KeepsInv P md l Q I) 0 l)
    (fin : ∀ L a w, (∀ i, i < l.length → L i = true) → I L a w → Q .normal a w) :
    ∀ (fuel : Nat) (listed : Array Bool) (L : Nat → Bool) (a : Act) (w : World), listed.size = l.length → (∀ i, i < l.length → listed[i]? = some (L i)) → unl l.length L ≤ fuel → I L a w → wpAny P md l.toArray Q fuel listed a w := by
  have hempty : ∀ (listed : Array Bool) (L : Nat → Bool), listed.size = l.length → (∀ i, i < l.length → listed[i]? = some (L i)) → Region.ready md l.toArray listed = [] → ∀ i, i < l.length → L i = true := by
    intro listed L hsz hl hr i
    induction i using Nat.strongRecOn with
    | _ i ih =>
      intro hi
      cases hLi : L i with
      | true => rfl
      | false =>
        exfalso
        have : i ∈ Region.ready md l.toArray listed := by
          rw [mem_ready]
          refine ⟨by simp [hl i hi, hLi], l[i], by simp [hi], ?_⟩
          intro e he hbd
          have hlt := backB_get l 0 i l[i] hb (by simp [hi]) e he hbd
          rw [Nat.zero_add] at hlt
          have := ih e.on hlt (by omega)
          simp [hl e.on (by omega), this]
        rw [hr] at this
        cases this
  intro fuel
  induction fuel with
  | zero =>
    intro listed L a w hsz hl hu hI
    have hall : ∀ i, i < l.length → L i = true := by
      intro i hi
      cases hLi : L i with
      | true => rfl
      | false =>
        exfalso
        have := unl_upd hi hLi
        omega
    refine ⟨?_, fin L a w hall hI⟩
    cases hr : Region.ready md l.toArray listed with
    | nil => rfl
    | cons i t =>
      exfalso
      have hm : i ∈ Region.ready md l.toArray listed := by rw [hr]; exact List.mem_cons_self
      obtain ⟨h0, o, ho, -⟩ := mem_ready.1 hm
      have hi : i < l.length := by
        rcases Nat.lt_or_ge i l.length with h | h
        · exact h
        · simp [h] at ho
      simp [hl i hi, hall i hi] at h0
  | succ fuel ih =>
    intro listed L a w hsz hl hu hI
    refine ⟨fun hr => fin L a w (hempty listed L hsz hl hr) hI, fun i hm => ?_⟩
    obtain ⟨h0, o, ho, haft⟩ := mem_ready.1 hm
    have hi : i < l.length := by
      rcases Nat.lt_or_ge i l.length with h | h
      · exact h
      · simp [h] at ho
    have hLi : L i = false := by simpa [hl i hi] using h0
    have hk := allOps_get l 0 i o step (by simpa using ho)
    rw [Nat.zero_add] at hk
    have hh := hk L a w hLi (edgesOn_of _ fun e he hbd => by
      have he := Array.mem_toList_iff.1 he
      have h1 := haft e he hbd
      have hlt := backB_get l 0 i o hb (by simpa using ho) e he hbd
      rw [Nat.zero_add] at hlt
      simpa [hl e.on (by omega)] using h1) hI
    have go : ∀ a' w', I (upd L i) a' w' → wpAny P md l.toArray Q fuel (listed.setIfInBounds i true) a' w' := fun a' w' hI' => by
      refine ih _ (upd L i) a' w' (by simpa using hsz) (fun j hj => ?_) (by have := unl_upd hi hLi; omega) hI'
      by_cases hij : i = j
      · subst hij; rw [upd_same]; simp [hsz, hi]
      · rw [upd_other L (fun h => hij h.symm), Array.getElem?_setIfInBounds_ne hij]; exact hl j hj
    unfold wpOp
    simp only [ho]
    split
    · rename_i hw
      simp only [hw, if_true] at hh
      exact .inl (Oper.wp_mono go hh)
    · rename_i hw
      simp only [hw] at hh
      exact go _ _ hh

theorem keeps_free {I : (Nat → Bool) → Act → World → Prop} {i : Nat} {o : Oper} (hg : o.guard = none)
    (h : ∀ (L : Nat → Bool) (a : Act) (w : World), L i = false → edgesOn md L o.after.toList → I L a w → o.wp P a w (I (upd L i)) Q) : KeepsInv P md l Q I i o := by
  intro L a w h1 h2 h3
  have hw : Region.wanted o (yielded l.toArray a.tmps) = true := by
    unfold Region.wanted
    rw [hg]
  rw [if_pos hw]
  exact h L a w h1 h2 h3

/-- **A region of open order by what holds whatever has been done**: one step for each operation, whatever the order. -/
theorem wp_region_inv {id : Nat} {a : Act} {w : World} (hm : P.follows .mixedOrders = true) (I : (Nat → Bool) → Act → World → Prop) (hb : backB .any 0 l = true)
    (h0 : I (fun _ => false) a w.drew) (step : allOps (KeepsInv P .any l Q I) 0 l) (fin : ∀ L a w, (∀ i, i < l.length → L i = true) → I L a w → Q .normal a w) : (Code.region id l.toArray true).wp P Q a w := by
  refine wp_region_any hm ?_
  refine wpAny_inv I hb step fin _ _ (fun _ => false) a _ (by simp) (fun i hi => by simp [hi]) ?_ h0
  unfold unl
  refine Nat.le_trans (List.length_filter_le _ _) ?_
  simp
end

theorem wp_call1 {o : Oper} {a : Act} {w : World} {K : Act → World → Prop} {Q : Exit → Act → World → Prop} {f : FuncId} {tys : Array TypeId} {x0 : Operand} {u0 : Value} (ho : o.op = .call { callee := .value (.func f), args := #[x0], argTypes := tys }) (e0 : a.eval x0 = u0) (hf : (callFunc f #[u0]).run Try.prog w = .ok (.enter f #[u0]) w)
    (hK : Calls Try.prog f #[u0] w fun e w' => ∃ v, e = .returned v ∧ K (a.put o.dst v) w') : o.wp Try.prog a w K Q := by
  obtain ⟨dst, op, ty, pos, after, guard⟩ := o
  subst ho
  have H : (execOp a.eval { dst := dst, op := .call { callee := .value (.func f), args := #[x0], argTypes := tys }, type := ty, pos := pos, after := after, guard := guard }).run Try.prog w = .ok (.enter f #[u0]) w := by
    simp only [execOp, resolve, List.map_toArray, List.map_cons, List.map_nil, e0]
    go_simp
    try exact hf
  unfold Oper.wp
  rw [H]
  simp only [Oper.upon]
  refine hK.mono ?_
  rintro e w' ⟨v, rfl, hv⟩
  exact hv
theorem wp_load_ins {o : Oper} {a : Act} {w : World} {K : Act → World → Prop} {Q : Exit → Act → World → Prop} {p : Operand} {b : Nat} {c0 c1 c2 c3 c4 : Value} (ho : o.op = .load 30 p) (hp : a.eval p = .pointer (some ⟨b, 0, none⟩)) (d0 : w.cell? ⟨b, 0, none⟩ = some c0) (d1 : w.cell? ⟨b, 1, none⟩ = some c1) (d2 : w.cell? ⟨b, 2, none⟩ = some c2) (d3 : w.cell? ⟨b, 3, none⟩ = some c3) (d4 : w.cell? ⟨b, 4, none⟩ = some c4)
    (hK : K (a.put o.dst (.agg #[c0, c1, c2, c3, c4])) w) : o.wp Try.prog a w K Q := by
  obtain ⟨dst, op, ty, pos, after, guard⟩ := o
  subst ho
  unfold Oper.wp
  simp only [execOp, hp]
  go_simp
  exact hK
theorem wp_load_u8 {o : Oper} {a : Act} {w : World} {K : Act → World → Prop} {Q : Exit → Act → World → Prop} {p : Operand} {b k : Nat} {v : Value} (ho : o.op = .load 5 p) (hp : a.eval p = .pointer (some ⟨b, k, none⟩)) (d0 : w.cell? ⟨b, k, none⟩ = some v)
    (hK : K (a.put o.dst v) w) : o.wp Try.prog a w K Q := by
  obtain ⟨dst, op, ty, pos, after, guard⟩ := o
  subst ho
  unfold Oper.wp
  simp only [execOp, hp]
  go_simp
  exact hK
theorem wp_fld {o : Oper} {a : Act} {w : World} {K : Act → World → Prop} {Q : Exit → Act → World → Prop} {p : Operand} {b : Nat} (ho : o.op = .fieldAddr 30 p 1) (hp : a.eval p = .pointer (some ⟨b, 0, none⟩))
    (hK : K (a.put o.dst (.pointer (some ⟨b, 1, none⟩))) w) : o.wp Try.prog a w K Q := by
  obtain ⟨dst, op, ty, pos, after, guard⟩ := o
  subst ho
  unfold Oper.wp
  simp only [execOp, hp]
  go_simp
  exact hK
theorem wp_lit1 {o : Oper} {a : Act} {w : World} {K : Act → World → Prop} {Q : Exit → Act → World → Prop} {t : Nat} {d : Int} (ho : o.op = .buildSlice 61 1 #[(0, .tmp t)]) (hx : a.tmps[t]? = some (.int .u8 d))
    (hK : K (a.put o.dst (.slice (some ⟨w.heap.size, 0, none⟩) 1 1)) (w.alloc (.cells #[.int .u8 d] 5))) : o.wp Try.prog a w K Q := by
  obtain ⟨dst, op, ty, pos, after, guard⟩ := o
  subst ho
  have he : a.eval (.tmp t) = .int .u8 d := by simp [Act.eval, hx]
  unfold Oper.wp
  simp only [execOp, List.map_toArray, List.map_cons, List.map_nil, he]
  go_simp
  exact hK
theorem wp_asg {o : Oper} {a : Act} {w : World} {K : Act → World → Prop} {Q : Exit → Act → World → Prop} {x : Operand} {v : Value} (ho : o.op = .assign x) (hx : a.eval x = v)
    (hK : K (a.put o.dst v) w) : o.wp Try.prog a w K Q := by
  obtain ⟨dst, op, ty, pos, after, guard⟩ := o
  subst ho
  unfold Oper.wp
  simp only [execOp, hx]
  go_simp
  exact hK
end Go.Proofs.Ytdmdmbcapjmnlab
