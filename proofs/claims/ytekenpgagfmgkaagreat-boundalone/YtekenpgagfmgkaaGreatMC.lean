/- Towards the statements of package bound (layer 5): a row of halves, if it is within half; else half; as the program has it. Regions of open order that are quiet but for some operations at their end; parts of bounds, read and written. Towards the statements of package bound (layer 5): what spans and reaches become, as far as soundness asks: ends that have what was reckoned. Towards the statements of package bound (layer 5): what an instruction makes of two bounds, as far as soundness asks; bounds of one number. -/
import Derived.Test.YtekenpgagfmgkaaGreatBH
import Derived.Test.YtekenpgagfmgkaaGreatMB
import Derived.Test.YtekenpgagfmgkaaGreatDiv
import Derived.Test.YtekenpgagfmgkaaGreatSM
import Derived.Test.YtekenpgagfmgkaaGreatApi
section
namespace Go.Proofs.YtekenpgagfmgkaaGreat
open Go.ChangeShapes Go.WideShapes Go.ChangeAt Go.RowKit
open Tn (iv)
set_option linter.unusedVariables false
set_option maxRecDepth 20000

set_option maxHeartbeats 1000000 in
theorem ifHalf_any (al ah : Int) (w : World) : Calls Tryz.prog 180 #[.agg #[.int .u64 al, .int .u64 ah]] w fun e w' => e = .returned (.agg #[.int .u64 (eN (decide (ah < al) || ((decide (0 ≤ al) && decide (al ≤ 4294967295)) && (decide (0 ≤ ah) && decide (ah ≤ 4294967295)))) al 0), .int .u64 (eN (decide (ah < al) || ((decide (0 ≤ al) && decide (al ≤ 4294967295)) && (decide (0 ≤ ah) && decide (ah ≤ 4294967295)))) ah 4294967295)]) ∧ Gr w w' := by
  have HA : Hid (AtA ((w.alloc (.cells #[.int .u64 al, .int .u64 ah] 26)).alloc (.cells #[.int .u64 0, .int .u64 0] 26)) w.heap.size #[.int .u64 al, .int .u64 ah] 26) := (AtA.newb _ (by simp) _ _).alloc _
  have HR : Hid (AtA ((w.alloc (.cells #[.int .u64 al, .int .u64 ah] 26)).alloc (.cells #[.int .u64 0, .int .u64 0] 26)) (w.heap.size + 1) #[.int .u64 0, .int .u64 0] 26) := AtA.newb _ (by simp) _ _
  have HF : Hid (Gr w ((w.alloc (.cells #[.int .u64 al, .int .u64 ah] 26)).alloc (.cells #[.int .u64 0, .int .u64 0] 26))) := (⟨by go_grown, by go_grown⟩ : Gr w _)
  have p0 : ∀ p : GrBy ((w.alloc (.cells #[.int .u64 al, .int .u64 ah] 26)).alloc (.cells #[.int .u64 0, .int .u64 0] 26)), p.to.cell? ⟨w.heap.size, 0, none⟩ = some (.int .u64 al) := fun p => by have h := (HA.out.gr p.gr).cell 0; simpa only [List.getElem?_toArray, List.getElem?_cons_zero] using h
  have p1 : ∀ p : GrBy ((w.alloc (.cells #[.int .u64 al, .int .u64 ah] 26)).alloc (.cells #[.int .u64 0, .int .u64 0] 26)), p.to.cell? ⟨w.heap.size, 1, none⟩ = some (.int .u64 ah) := fun p => by have h := (HA.out.gr p.gr).cell 1; simpa only [List.getElem?_toArray, List.getElem?_cons_zero, List.getElem?_cons_succ] using h
  have hne : Nonempty (GrBy ((w.alloc (.cells #[.int .u64 al, .int .u64 ah] 26)).alloc (.cells #[.int .u64 0, .int .u64 0] 26))) := ⟨⟨_, Gr.refl _⟩⟩
  cases b0 : (decide (ah < al) || ((decide (0 ≤ al) && decide (al ≤ 4294967295)) && (decide (0 ≤ ah) && decide (ah ≤ 4294967295))))
  · go_enter Tryz.func180, Tryz.ntmps180
    go_wp2_with fail
    refine wp_region_gr (by kernel_rfl) (by kernel_rfl) ?_
    (try simp only [List.append_eq, List.cons_append, List.nil_append])
    repeat (first
      | go_big_quiet_skip
      | (go_big_quiet_want; go_big_quiet_op; first
        | go_big_quiet_on
        | (apply Exists.intro
           refine ⟨fun p => ?_, ?_⟩
           · first
               | (go_at_call 37; exact calls_gr (half_gr _))
               | (go_at_call 36; exact calls_gr (spanIn_q _ _ _ _ _ (by with_reducible assumption) _))
           go_big_quiet_on)))
    refine wpQuiet_nil ?_
    intro _ hw'
    obtain ⟨q, rfl⟩ := hw'
    go_wp2_with (first
      | (go_at_call 37; refine (half_gr _).mono ?_; rintro e w1 ⟨rfl, hg⟩; have hr : Hid (AtA w1 (w.heap.size + 1) _ 26) := (HR.out.gr q.gr).gr hg; have hG : Hid (Gr w w1) := (HF.out.trans q.gr).trans hg; clear hg
         have f0 := (hr.out).f 0
         have f1 := (hr.out).f 1
         have d0 := (hr.out).cell 0
         have d1 := (hr.out).cell 1
         have hz := ((hr.out).st 0 (.int .u64 0)).st 1 (.int .u64 4294967295)
         have e0 := hz.cell 0
         have e1 := hz.cell 1
         simp only [List.getElem?_toArray, List.getElem?_cons_zero, List.getElem?_cons_succ] at d0 d1
         simp only [List.getElem?_toArray, List.getElem?_cons_zero, List.getElem?_cons_succ, List.setIfInBounds_toArray, List.set_cons_zero, List.set_cons_succ] at e0 e1
         clear hz
))
    refine bodyPost_ret (by simp [results, Tryz.results180, go_sem, e0, e1]; try rfl) rfl ?_
    exact ⟨rfl, (hG.out.set (by omega) _).set (by omega) _⟩
  · go_enter Tryz.func180, Tryz.ntmps180
    go_wp2_with fail
    refine wp_region_gr (by kernel_rfl) (by kernel_rfl) ?_
    (try simp only [List.append_eq, List.cons_append, List.nil_append])
    repeat (first
      | go_big_quiet_skip
      | (go_big_quiet_want; go_big_quiet_op; first
        | go_big_quiet_on
        | (apply Exists.intro
           refine ⟨fun p => ?_, ?_⟩
           · first
               | (go_at_call 37; exact calls_gr (half_gr _))
               | (go_at_call 36; exact calls_gr (spanIn_q _ _ _ _ _ (by with_reducible assumption) _))
           go_big_quiet_on)))
    refine wpQuiet_nil ?_
    intro _ hw'
    obtain ⟨q, rfl⟩ := hw'
    have f0 := (HR.out.gr q.gr).f 0
    have f1 := (HR.out.gr q.gr).f 1
    have d0 := (HR.out.gr q.gr).cell 0
    have d1 := (HR.out.gr q.gr).cell 1
    have hz := ((HR.out.gr q.gr).st 0 (.int .u64 al)).st 1 (.int .u64 ah)
    have e0 := hz.cell 0
    have e1 := hz.cell 1
    simp only [List.getElem?_toArray, List.getElem?_cons_zero, List.getElem?_cons_succ] at d0 d1
    simp only [List.getElem?_toArray, List.getElem?_cons_zero, List.getElem?_cons_succ, List.setIfInBounds_toArray, List.set_cons_zero, List.set_cons_succ] at e0 e1
    clear hz
    go_wp2_with fail
    refine bodyPost_ret (by simp [results, Tryz.results180, go_sem, e0, e1]; try rfl) rfl ?_
    exact ⟨rfl, ((HF.out.trans q.gr).set (by omega) _).set (by omega) _⟩
set_option maxHeartbeats 1000000 in
theorem ifSHalf_any (al ah : Int) (w : World) : Calls Tryz.prog 181 #[.agg #[.int .i64 al, .int .i64 ah]] w fun e w' => e = .returned (.agg #[.int .i64 (eN ((decide ((-2147483648) ≤ al) && decide (al ≤ 2147483647)) && (decide ((-2147483648) ≤ ah) && decide (ah ≤ 2147483647))) al (-2147483648)), .int .i64 (eN ((decide ((-2147483648) ≤ al) && decide (al ≤ 2147483647)) && (decide ((-2147483648) ≤ ah) && decide (ah ≤ 2147483647))) ah 2147483647)]) ∧ Gr w w' := by
  have HA : Hid (AtA ((w.alloc (.cells #[.int .i64 al, .int .i64 ah] 28)).alloc (.cells #[.int .i64 0, .int .i64 0] 28)) w.heap.size #[.int .i64 al, .int .i64 ah] 28) := (AtA.newb _ (by simp) _ _).alloc _
  have HR : Hid (AtA ((w.alloc (.cells #[.int .i64 al, .int .i64 ah] 28)).alloc (.cells #[.int .i64 0, .int .i64 0] 28)) (w.heap.size + 1) #[.int .i64 0, .int .i64 0] 28) := AtA.newb _ (by simp) _ _
  have HF : Hid (Gr w ((w.alloc (.cells #[.int .i64 al, .int .i64 ah] 28)).alloc (.cells #[.int .i64 0, .int .i64 0] 28))) := (⟨by go_grown, by go_grown⟩ : Gr w _)
  have p0 : ∀ p : GrBy ((w.alloc (.cells #[.int .i64 al, .int .i64 ah] 28)).alloc (.cells #[.int .i64 0, .int .i64 0] 28)), p.to.cell? ⟨w.heap.size, 0, none⟩ = some (.int .i64 al) := fun p => by have h := (HA.out.gr p.gr).cell 0; simpa only [List.getElem?_toArray, List.getElem?_cons_zero] using h
  have p1 : ∀ p : GrBy ((w.alloc (.cells #[.int .i64 al, .int .i64 ah] 28)).alloc (.cells #[.int .i64 0, .int .i64 0] 28)), p.to.cell? ⟨w.heap.size, 1, none⟩ = some (.int .i64 ah) := fun p => by have h := (HA.out.gr p.gr).cell 1; simpa only [List.getElem?_toArray, List.getElem?_cons_zero, List.getElem?_cons_succ] using h
  have hne : Nonempty (GrBy ((w.alloc (.cells #[.int .i64 al, .int .i64 ah] 28)).alloc (.cells #[.int .i64 0, .int .i64 0] 28))) := ⟨⟨_, Gr.refl _⟩⟩
  cases b0 : ((decide ((-2147483648) ≤ al) && decide (al ≤ 2147483647)) && (decide ((-2147483648) ≤ ah) && decide (ah ≤ 2147483647)))
  · go_enter Tryz.func181, Tryz.ntmps181
    go_wp2_with fail
    refine wp_region_gr (by kernel_rfl) (by kernel_rfl) ?_
    (try simp only [List.append_eq, List.cons_append, List.nil_append])
    repeat (first
      | go_big_quiet_skip
      | (go_big_quiet_want; go_big_quiet_op; first
        | go_big_quiet_on
        | (apply Exists.intro
           refine ⟨fun p => ?_, ?_⟩
           · first
               | (go_at_call 39; exact calls_gr (shalf_gr _))
               | (go_at_call 38; exact calls_gr (within_q _ _ _ _ _ (by with_reducible assumption) _))
           go_big_quiet_on)))
    refine wpQuiet_nil ?_
    intro _ hw'
    obtain ⟨q, rfl⟩ := hw'
    go_wp2_with (first
      | (go_at_call 39; refine (shalf_gr _).mono ?_; rintro e w1 ⟨rfl, hg⟩; have hr : Hid (AtA w1 (w.heap.size + 1) _ 28) := (HR.out.gr q.gr).gr hg; have hG : Hid (Gr w w1) := (HF.out.trans q.gr).trans hg; clear hg
         have f0 := (hr.out).f 0
         have f1 := (hr.out).f 1
         have d0 := (hr.out).cell 0
         have d1 := (hr.out).cell 1
         have hz := ((hr.out).st 0 (.int .i64 (-2147483648))).st 1 (.int .i64 2147483647)
         have e0 := hz.cell 0
         have e1 := hz.cell 1
         simp only [List.getElem?_toArray, List.getElem?_cons_zero, List.getElem?_cons_succ] at d0 d1
         simp only [List.getElem?_toArray, List.getElem?_cons_zero, List.getElem?_cons_succ, List.setIfInBounds_toArray, List.set_cons_zero, List.set_cons_succ] at e0 e1
         clear hz
))
    refine bodyPost_ret (by simp [results, Tryz.results181, go_sem, e0, e1]; try rfl) rfl ?_
    exact ⟨rfl, (hG.out.set (by omega) _).set (by omega) _⟩
  · go_enter Tryz.func181, Tryz.ntmps181
    go_wp2_with fail
    refine wp_region_gr (by kernel_rfl) (by kernel_rfl) ?_
    (try simp only [List.append_eq, List.cons_append, List.nil_append])
    repeat (first
      | go_big_quiet_skip
      | (go_big_quiet_want; go_big_quiet_op; first
        | go_big_quiet_on
        | (apply Exists.intro
           refine ⟨fun p => ?_, ?_⟩
           · first
               | (go_at_call 39; exact calls_gr (shalf_gr _))
               | (go_at_call 38; exact calls_gr (within_q _ _ _ _ _ (by with_reducible assumption) _))
           go_big_quiet_on)))
    refine wpQuiet_nil ?_
    intro _ hw'
    obtain ⟨q, rfl⟩ := hw'
    have f0 := (HR.out.gr q.gr).f 0
    have f1 := (HR.out.gr q.gr).f 1
    have d0 := (HR.out.gr q.gr).cell 0
    have d1 := (HR.out.gr q.gr).cell 1
    have hz := ((HR.out.gr q.gr).st 0 (.int .i64 al)).st 1 (.int .i64 ah)
    have e0 := hz.cell 0
    have e1 := hz.cell 1
    simp only [List.getElem?_toArray, List.getElem?_cons_zero, List.getElem?_cons_succ] at d0 d1
    simp only [List.getElem?_toArray, List.getElem?_cons_zero, List.getElem?_cons_succ, List.setIfInBounds_toArray, List.set_cons_zero, List.set_cons_succ] at e0 e1
    clear hz
    go_wp2_with fail
    refine bodyPost_ret (by simp [results, Tryz.results181, go_sem, e0, e1]; try rfl) rfl ?_
    exact ⟨rfl, ((HF.out.trans q.gr).set (by omega) _).set (by omega) _⟩
end Go.Proofs.YtekenpgagfmgkaaGreat
end
section
namespace Go.Proofs.YtekenpgagfmgkaaGreat
open Go.ChangeShapes Go.WideShapes Go.ChangeAt Go.RowKit
open Tn (iv)
set_option linter.unusedVariables false
set_option linter.unusedSimpArgs false
section
variable {P : Program} {md : Region.Mode} {C : World → Prop} {Q : Exit → Act → World → Prop}
/-- One behind the other, none of them guarded. -/
def seqW (P : Program) (Q : Exit → Act → World → Prop) : List Oper → Act → World → Prop
  | [], a, w => Q .normal a w
  | o :: t, a, w => o.wp P a w (seqW P Q t) Q
def hasE (md : Region.Mode) (o : Oper) (i : Nat) : Bool := o.after.toList.any fun e => Region.binds md e && e.on == i
theorem hasE_spec {o : Oper} {i : Nat} (h : hasE md o i = true) : ∃ e ∈ o.after, Region.binds md e = true ∧ e.on = i := by
  obtain ⟨e, he, hh⟩ := List.any_eq_true.1 h
  simp only [Bool.and_eq_true, beq_iff_eq] at hh
  exact ⟨e, Array.mem_toList_iff.1 he, hh.1, hh.2⟩
/-- Each of these, numbered from k, waits for all ahead of it (by itself, or by one that it waits for), and is not guarded. -/
def tailB (md : Region.Mode) (all : List Oper) : Nat → List Oper → Bool
  | _, [] => true
  | k, o :: t => o.guard.isNone && (List.range k).all (fun i => hasE md o i || (List.range k).any fun j => decide (i < j) && ((all[j]?).map (fun p => hasE md p i)).getD false) && (o.after.all fun e => !Region.binds md e || decide (e.on < k)) && tailB md all (k + 1) t
theorem tailB_get {all : List Oper} : ∀ (s : List Oper) (k j : Nat) (o : Oper), tailB md all k s = true → s[j]? = some o →
    o.guard = none ∧ (∀ i, i < k + j → (∃ e ∈ o.after, Region.binds md e = true ∧ e.on = i) ∨ ∃ j', i < j' ∧ j' < k + j ∧ ∃ p, all[j']? = some p ∧ ∃ e ∈ p.after, Region.binds md e = true ∧ e.on = i) ∧ (∀ e ∈ o.after, Region.binds md e = true → e.on < k + j)
  | [], _, _, _, _, h => by simp at h
  | p :: t, k, 0, o, h, ho => by
    simp at ho; subst ho
    simp only [tailB, Bool.and_eq_true] at h
    obtain ⟨⟨⟨h1, h2⟩, h3⟩, -⟩ := h
    refine ⟨by simpa using h1, fun i hi => ?_, fun e he hb => ?_⟩
    · have := (List.all_eq_true.1 h2) i (List.mem_range.2 (by omega))
      rw [Bool.or_eq_true] at this
      rcases this with h | h
      · exact .inl (hasE_spec h)
      · obtain ⟨j', hj', hh⟩ := List.any_eq_true.1 h
        simp only [Bool.and_eq_true, decide_eq_true_eq] at hh
        have hj' := List.mem_range.1 hj'
        cases hp : all[j']? with
        | none => rw [hp] at hh; simp at hh
        | some q =>
          rw [hp] at hh
          exact .inr ⟨j', hh.1, by omega, q, hp, hasE_spec (by simpa using hh.2)⟩
    · have := (Array.all_eq_true_iff_forall_mem.1 h3) e he
      simp [hb] at this
      omega
  | p :: t, k, j + 1, o, h, ho => by
    simp only [tailB, Bool.and_eq_true] at h
    have := tailB_get t (k + 1) j o h.2 (by simpa using ho)
    rw [show k + 1 + j = k + (j + 1) by omega] at this
    exact this
/-- What an operation waits for, waits for, ..: all of it has been. -/
theorem all_listed {all : List Oper} {o : Oper} {k : Nat} {L : Nat → Prop} (hc : ∀ j p, j < k → all[j]? = some p → L j → ∀ e ∈ p.after, Region.binds md e = true → L e.on) (ho : ∀ e ∈ o.after, Region.binds md e = true → L e.on)
    (h : ∀ i, i < k → (∃ e ∈ o.after, Region.binds md e = true ∧ e.on = i) ∨ ∃ j', i < j' ∧ j' < k ∧ ∃ p, all[j']? = some p ∧ ∃ e ∈ p.after, Region.binds md e = true ∧ e.on = i) : ∀ i, i < k → L i := by
  have key : ∀ d i, i < k → k - i ≤ d → L i := by
    intro d
    induction d with
    | zero => intro i hi hd; omega
    | succ d ih =>
      intro i hi hd
      rcases h i hi with ⟨e, he, hb, rfl⟩ | ⟨j', h1, h2, p, hp, e, he, hb, rfl⟩
      · exact ho e he hb
      · exact hc j' p h2 hp (ih j' h2 (by omega)) e he hb
  exact fun i hi => key k i hi (by omega)
/-- Listed: just the first k. -/
def firstK (k n : Nat) (listed : Array Bool) : Prop := listed.size = n ∧ ∀ i, i < n → listed[i]? = some (decide (i < k))
theorem ready_tail {l s : List Oper} {j : Nat} {listed : Array Bool} (hb : backB md 0 l = true) (hs : tailB md (l ++ s) l.length s = true) (hj : j < s.length) (hl : firstK (l.length + j) (l ++ s).length listed) :
    Region.ready md (l ++ s).toArray listed = [l.length + j] := by
  obtain ⟨hz, hl⟩ := hl
  have hlen : (l ++ s).length = l.length + s.length := List.length_append
  have key : ∀ i, i < (l ++ s).length → ((!listed.getD i true && (((l ++ s).toArray[i]?).map (·.after.all fun e => !Region.binds md e || listed.getD e.on false)).getD false) = decide (i = l.length + j)) := by
    intro i hi
    have hli := hl i hi
    rcases Nat.lt_trichotomy i (l.length + j) with h | h | h
    · simp [hli, h, show ¬ i = l.length + j by omega]
    · subst h
      have hget : (l ++ s).toArray[l.length + j]? = some s[j] := by
        simp [List.getElem?_append_right, hj]
      obtain ⟨-, -, h3⟩ := tailB_get s l.length j s[j] hs (by simp [hj])
      rw [hget]
      simp only [hli, Option.map_some, Option.getD_some, decide_true]
      have hall : (s[j].after.all fun e => !Region.binds md e || listed.getD e.on false) = true := by
        rw [Array.all_eq_true_iff_forall_mem]
        intro e he
        cases hb : Region.binds md e with
        | false => simp
        | true =>
          have hlt := h3 e he hb
          have := hl e.on (by omega)
          simp [this, hlt]
      rw [hall]
      simp [hli]
    · obtain ⟨m, rfl⟩ : ∃ m, i = l.length + m := ⟨i - l.length, by omega⟩
      have hm : m < s.length := by omega
      have hget : (l ++ s).toArray[l.length + m]? = some s[m] := by
        simp [List.getElem?_append_right, hm]
      obtain ⟨-, h2, hback⟩ := tailB_get s l.length m s[m] hs (by simp [hm])
      have hno : (s[m].after.all fun e => !Region.binds md e || listed.getD e.on false) = false := by
        cases hc : (s[m].after.all fun e => !Region.binds md e || listed.getD e.on false) with
        | false => rfl
        | true =>
          have hall := all_listed (md := md) (all := l ++ s) (o := s[m]) (k := l.length + m) (L := fun i => i < l.length + j) (fun j' p hjk hp hLj e he hbd => ?_) (fun e he hbd => ?_) h2 (l.length + j) (by omega)
          · exact absurd hall (by omega)
          · by_cases hjl : j' < l.length
            · rw [List.getElem?_append_left hjl] at hp
              have := backB_get l 0 j' p hb hp e he hbd
              omega
            · obtain ⟨q, rfl⟩ : ∃ q, j' = l.length + q := ⟨j' - l.length, by omega⟩
              rw [List.getElem?_append_right (by omega)] at hp
              have := (tailB_get s l.length q p hs (by simpa using hp)).2.2 e he hbd
              omega
          · have h9 := (Array.all_eq_true_iff_forall_mem.1 hc) e he
            have hlt := hback e he hbd
            have hx := hl e.on (by omega)
            simp [hbd, hx] at h9
            exact h9
      rw [hget]
      simp only [Option.map_some, Option.getD_some, hno, Bool.and_false]
      simp
      omega
  unfold Region.ready
  have hsz : (l ++ s).toArray.size = (l ++ s).length := by simp
  rw [hsz]
  have e1 : (List.range (l ++ s).length).filter (fun i => !listed.getD i true && (((l ++ s).toArray[i]?).map (·.after.all fun e => !Region.binds md e || listed.getD e.on false)).getD false) = (List.range (l ++ s).length).filter (fun i => decide (i = l.length + j)) := by
    apply List.filter_congr
    intro i hi
    exact key i (List.mem_range.1 hi)
  rw [e1]
  have : ∀ (n m : Nat), m < n → (List.range n).filter (fun i => decide (i = m)) = [m] := by
    intro n
    induction n with
    | zero => intro m h; omega
    | succ n ih =>
      intro m h
      rw [List.range_succ, List.filter_append]
      by_cases hmn : m = n
      · subst hmn
        have : (List.range m).filter (fun i => decide (i = m)) = [] := by
          rw [List.filter_eq_nil_iff]
          intro a ha
          have := List.mem_range.1 ha
          simp
          omega
        rw [this]
        simp
      · rw [ih m (by omega)]
        simp [show ¬ n = m from fun h => hmn h.symm]
  exact this _ _ (by omega)
theorem wpAny_more1 {ops : Array Oper} : ∀ (f : Nat) (listed : Array Bool) (a : Act) (w : World), wpAny P md ops Q f listed a w → wpAny P md ops Q (f + 1) listed a w
  | 0, listed, a, w, h => ⟨fun _ => h.2, fun i hi => by rw [h.1] at hi; cases hi⟩
  | f + 1, listed, a, w, h => ⟨h.1, fun i hi => wpOp_mono (fun a w => wpAny_more1 f _ a w) (h.2 i hi)⟩
theorem wpAny_more {ops : Array Oper} : ∀ (k f : Nat) (listed : Array Bool) (a : Act) (w : World), wpAny P md ops Q f listed a w → wpAny P md ops Q (f + k) listed a w
  | 0, _, _, _, _, h => h
  | k + 1, f, listed, a, w, h => wpAny_more1 (f + k) listed a w (wpAny_more k f listed a w h)
theorem wpAny_tail {l s : List Oper} (hb : backB md 0 l = true) (hs : tailB md (l ++ s) l.length s = true) : ∀ (f j : Nat) (listed : Array Bool) (a : Act) (w : World), f = s.length - j → j ≤ s.length → firstK (l.length + j) (l ++ s).length listed → seqW P Q (s.drop j) a w → wpAny P md (l ++ s).toArray Q f listed a w := by
  intro f
  induction f with
  | zero =>
    intro j listed a w hf hj hl h
    have hj' : j = s.length := by omega
    subst hj'
    rw [List.drop_length] at h
    refine ⟨?_, h⟩
    cases hr : Region.ready md (l ++ s).toArray listed with
    | nil => rfl
    | cons i t =>
      exfalso
      have hm : i ∈ Region.ready md (l ++ s).toArray listed := by rw [hr]; exact List.mem_cons_self
      obtain ⟨h0, o, ho, -⟩ := mem_ready.1 hm
      have hi : i < (l ++ s).length := by
        rcases Nat.lt_or_ge i (l ++ s).length with h | h
        · exact h
        · rw [List.getElem?_toArray, List.getElem?_eq_none h] at ho; cases ho
      have := hl.2 i hi
      rw [List.length_append] at hi
      simp [this] at h0
      omega
  | succ f ih =>
    intro j listed a w hf hj hl h
    have hj' : j < s.length := by omega
    have hr := ready_tail hb hs hj' hl
    refine ⟨fun h0 => (by rw [hr] at h0; cases h0), fun i hi => ?_⟩
    rw [hr] at hi
    have hi : i = l.length + j := by simpa using hi
    subst hi
    have hget : (l ++ s).toArray[l.length + j]? = some s[j] := by
      simp [List.getElem?_append_right, hj']
    obtain ⟨hg, -, -⟩ := tailB_get s l.length j s[j] hs (by simp [hj'])
    unfold wpOp
    simp only [hget]
    have hw : Region.wanted s[j] (yielded (l ++ s).toArray a.tmps) = true := by unfold Region.wanted; rw [hg]
    rw [if_pos hw]
    rw [List.drop_eq_getElem_cons hj'] at h
    refine .inl (Oper.wp_mono (fun a' w' h' => ?_) h)
    refine ih (j + 1) _ a' w' (by omega) (by omega) ⟨by simpa using hl.1, fun i hi => ?_⟩ h'
    by_cases hij : l.length + j = i
    · subst hij
      have : l.length + j < listed.size := by rw [hl.1]; exact hi
      simp [this]
    · rw [Array.getElem?_setIfInBounds_ne hij, hl.2 i hi]
      congr 1
      rw [decide_eq_decide]
      omega
/-- A listing of the first part, seen in the whole. -/
def widen (listed : Array Bool) (m : Nat) : Array Bool := listed ++ Array.replicate m false
theorem getD_widen_lt {listed : Array Bool} {m i : Nat} (d : Bool) (h : i < listed.size) : (widen listed m).getD i d = listed.getD i d := by
  unfold widen
  simp [Array.getElem?_append_left h]
theorem wpAny_of_ql {l s : List Oper} (hg : l.all (fun o => o.guard.isNone) = true) (hb : backB md 0 l = true) (hs : tailB md (l ++ s) l.length s = true) {R : Act → Prop} (hR : ∀ a w, C w → R a → seqW P Q s a w) :
    ∀ (f : Nat) (listed : Array Bool) (a : Act) (w : World), listed.size = l.length → (∀ j p, l[j]? = some p → listed.getD j false = true → ∀ e ∈ p.after, Region.binds md e = true → listed.getD e.on false = true) → C w → wpAnyQ P md l.toArray C R f listed a → wpAny P md (l ++ s).toArray Q (f + s.length) (widen listed s.length) a w := by
  have hmem : ∀ (listed : Array Bool), listed.size = l.length → ∀ i, i < l.length → (i ∈ Region.ready md (l ++ s).toArray (widen listed s.length) ↔ i ∈ Region.ready md l.toArray listed) := by
    intro listed hz i hi
    rw [mem_ready, mem_ready, getD_widen_lt true (by omega)]
    have e : (l ++ s).toArray[i]? = l.toArray[i]? := by simp [List.getElem?_append_left hi]
    rw [e]
    constructor
    · rintro ⟨h0, o, ho, h⟩
      refine ⟨h0, o, ho, fun e' he hbd => ?_⟩
      have hlt := backB_get l 0 i o hb (by simpa using ho) e' he hbd
      have := h e' he hbd
      rwa [getD_widen_lt false (by omega)] at this
    · rintro ⟨h0, o, ho, h⟩
      refine ⟨h0, o, ho, fun e' he hbd => ?_⟩
      have hlt := backB_get l 0 i o hb (by simpa using ho) e' he hbd
      rw [getD_widen_lt false (by omega)]
      exact h e' he hbd
  have hdone : ∀ (listed : Array Bool), listed.size = l.length → Region.ready md l.toArray listed = [] → ∀ i, i < l.length → listed[i]? = some true := by
    intro listed hz hr i
    induction i using Nat.strongRecOn with
    | _ i ih =>
      intro hi
      have hi' : i < listed.size := by omega
      cases hLi : listed[i] with
      | true => simp [hi', hLi]
      | false =>
        exfalso
        have : i ∈ Region.ready md l.toArray listed := by
          rw [mem_ready]
          refine ⟨by simp [hi', hLi], l[i], by simp [hi], ?_⟩
          intro e he hbd
          have hlt := backB_get l 0 i l[i] hb (by simp [hi]) e he hbd
          rw [Nat.zero_add] at hlt
          have := ih e.on hlt (by omega)
          simp [this]
        rw [hr] at this
        cases this
  have hend : ∀ (f : Nat) (listed : Array Bool) (a : Act) (w : World), listed.size = l.length → C w → R a → Region.ready md l.toArray listed = [] → wpAny P md (l ++ s).toArray Q (s.length) (widen listed s.length) a w := by
    intro f listed a w hz hC hRa hr
    refine wpAny_tail hb hs s.length 0 _ a w (by omega) (by omega) ⟨?_, fun i hi => ?_⟩ (by simpa using hR a w hC hRa)
    · simp [widen, hz]
    · rw [List.length_append] at hi
      unfold widen
      by_cases h : i < l.length
      · rw [Array.getElem?_append_left (by omega), hdone listed hz hr i h]
        simp [h]
      · rw [Array.getElem?_append_right (by omega), hz, Array.getElem?_replicate, if_pos (by omega)]
        simp [h]
  have hset : ∀ (listed : Array Bool) (i : Nat), i < listed.size → (widen listed s.length).setIfInBounds i true = widen (listed.setIfInBounds i true) s.length := by
    intro listed i hi
    unfold widen
    rw [Array.setIfInBounds_append_left hi]
  intro f
  induction f with
  | zero =>
    intro listed a w hz hcl hC h
    rw [Nat.zero_add]
    exact hend 0 listed a w hz hC h.2 h.1
  | succ f ih =>
    intro listed a w hz hcl hC h
    by_cases hr : Region.ready md l.toArray listed = []
    · have := hend 0 listed a w hz hC (h.1 hr) hr
      rw [Nat.add_comm]
      exact wpAny_more (f + 1) _ _ _ _ this
    · obtain ⟨i0, hi0⟩ : ∃ i, i ∈ Region.ready md l.toArray listed := by
        cases hh : Region.ready md l.toArray listed with
        | nil => exact absurd hh hr
        | cons i t => exact ⟨i, by simp⟩
      have lt_of : ∀ i, i ∈ Region.ready md l.toArray listed → i < l.length := by
        intro i hi
        obtain ⟨-, o, ho, -⟩ := mem_ready.1 hi
        rcases Nat.lt_or_ge i l.length with h | h
        · exact h
        · simp [h] at ho
      rw [show f + 1 + s.length = (f + s.length) + 1 by omega]
      refine ⟨fun h0 => ?_, fun i hi => ?_⟩
      · have := (hmem listed hz i0 (lt_of i0 hi0)).2 hi0
        rw [h0] at this
        cases this
      · by_cases hil : i < l.length
        · have hi' := (hmem listed hz i hil).1 hi
          have hq := h.2 i hi'
          have hget : l.toArray[i]? = some l[i] := by simp [hil]
          have hget' : (l ++ s).toArray[i]? = some l[i] := by simp [List.getElem?_append_left hil, hil]
          have hgi : l[i].guard = none := by simpa using (List.all_eq_true.1 hg) l[i] (List.getElem_mem hil)
          have hw : ∀ y, Region.wanted l[i] y = true := fun y => by unfold Region.wanted; rw [hgi]
          unfold qOp at hq
          simp only [hget] at hq
          rw [if_pos (hw _)] at hq
          unfold wpOp
          simp only [hget']
          rw [if_pos (hw _), hset listed i (by omega)]
          refine .inl (Oper.wp_of_quiet hC (fun a' w' hC' hK => ih (listed.setIfInBounds i true) a' w' (by simpa using hz) ?_ hC' hK) hq)
          intro j p hp hj e he hbd
          by_cases hij : i = j
          · subst hij
            have hpi : p = l[i] := by simpa [hil] using hp.symm
            subst hpi
            obtain ⟨-, o', ho', haft⟩ := mem_ready.1 hi'
            have : o' = l[i] := by rw [hget] at ho'; exact (Option.some.inj ho').symm
            subst this
            exact getD_set_true (haft e he hbd)
          · rw [getD_set_ne false hij] at hj
            exact getD_set_true (hcl j p hp hj e he hbd)
        · exfalso
          obtain ⟨-, o, ho, haft⟩ := mem_ready.1 hi
          have his : i < (l ++ s).length := by
            rcases Nat.lt_or_ge i (l ++ s).length with h | h
            · exact h
            · rw [List.getElem?_toArray, List.getElem?_eq_none h] at ho; cases ho
          rw [List.length_append] at his
          obtain ⟨m, rfl⟩ : ∃ m, i = l.length + m := ⟨i - l.length, by omega⟩
          have ho' : s[m]? = some o := by
            rw [List.getElem?_toArray, List.getElem?_append_right (by omega)] at ho
            simpa using ho
          obtain ⟨-, h2, hback⟩ := tailB_get s l.length m o hs ho'
          have hi0l := lt_of i0 hi0
          have hall := all_listed (md := md) (all := l ++ s) (o := o) (k := l.length + m) (L := fun i => (widen listed s.length).getD i false = true) (fun j' p hjk hp hLj e he hbd => ?_) haft h2 i0 (by omega)
          · have h5 : (widen listed s.length).getD i0 false = true := hall
            rw [getD_widen_lt false (by omega)] at h5
            obtain ⟨h6, -⟩ := mem_ready.1 hi0
            have hi0' : i0 < listed.size := by omega
            simp [hi0'] at h5 h6
            rw [h5] at h6
            cases h6
          · have hLj : (widen listed s.length).getD j' false = true := hLj
            show (widen listed s.length).getD e.on false = true
            by_cases hjl : j' < l.length
            · rw [List.getElem?_append_left hjl] at hp
              have hlt := backB_get l 0 j' p hb hp e he hbd
              rw [getD_widen_lt false (by omega)] at hLj ⊢
              exact hcl j' p hp hLj e he hbd
            · exfalso
              have hsz : j' < (widen listed s.length).size := by simp [widen, hz]; omega
              have : (widen listed s.length)[j']? = some false := by
                unfold widen
                rw [Array.getElem?_append_right (by omega), hz, Array.getElem?_replicate, if_pos (by omega)]
              simp [this] at hLj
/-- **A region of open order whose operations are quiet, but for some at its end, each of which waits for all ahead of it.** -/
theorem wp_region_ql {id : Nat} {a : Act} {w : World} {l : List Oper} (s : List Oper) (hm : P.follows .mixedOrders = true) (hB : Region.lexB .any l.toArray = true) (hg : l.all (fun o => o.guard.isNone) = true) (hb : backB .any 0 l = true) (hs : tailB .any (l ++ s) l.length s = true) (hC : C w.drew)
    (h : wpQuiet P l.toArray C (fun a' => ∀ w', C w' → seqW P Q s a' w') l a) : (Code.region id (l ++ s).toArray true).wp P Q a w := by
  simp only [Region.lexB, Bool.and_eq_true] at hB
  refine wp_region_any hm ?_
  have h1 := wpAnyQ_lex (C := C) (md := .any) hB.1 l 0 (Array.replicate l.length false) a (by simp) (by simpa using hB.2) h
  have h2 := wpAny_of_ql (Q := Q) hg hb hs (fun a w hC h => h w hC) l.length (Array.replicate l.length false) a w.drew (by simp) (fun j p hp hj => by rw [Array.getD_eq_getD_getElem?, Array.getElem?_replicate] at hj; split at hj <;> simp at hj) hC h1
  have e1 : (l ++ s).toArray.size = l.length + s.length := by simp
  rw [e1]
  have e2 : widen (Array.replicate l.length false) s.length = Array.replicate (l.length + s.length) false := by
    unfold widen
    rw [Array.replicate_append_replicate]
  rw [e2] at h2
  exact h2
end
section
variable {P : Program} {ops : Array Oper} {Q : Exit → Act → World → Prop}
theorem wpOps_of_seq : ∀ (l : List Oper) (k : Nat) (a : Act) (w : World), (∀ j, l[j]? = ops[k + j]?) → l.all (fun o => o.guard.isNone) = true → seqW P Q l a w → wpOps P ops Q (List.range' k l.length) a w
  | [], _, a, w, _, _, h => h
  | o :: l, k, a, w, hl, hg, h => by
    have h0 : ops[k]? = some o := by simpa using (hl 0).symm
    have hl' : ∀ j, l[j]? = ops[k + 1 + j]? := fun j => by have := hl (j + 1); simpa [Nat.add_assoc, Nat.add_comm 1 j] using this
    simp only [List.all_cons, Bool.and_eq_true] at hg
    have hgo : o.guard = none := by simpa using hg.1
    rw [List.length_cons, List.range'_succ]
    unfold wpOps
    simp only [h0]
    have hw : Region.wanted o (yielded ops a.tmps) = true := by unfold Region.wanted; rw [hgo]
    rw [if_pos hw]
    exact .inl (Oper.wp_mono (fun a' w' h' => wpOps_of_seq l (k + 1) a' w' hl' hg.2 h') h)
/-- A region of the text's order, one operation behind the other. -/
theorem wp_region_seqW {id : Nat} {a : Act} {w : World} {l : List Oper} (hg : l.all (fun o => o.guard.isNone) = true) (h : seqW P Q l a w) : (Code.region id l.toArray false).wp P Q a w := by
  refine wp_region ?_
  have := wpOps_of_seq (P := P) (ops := l.toArray) (Q := Q) l 0 a w (by simp) hg h
  rw [List.range_eq_range']
  simpa using this
end
section
variable {o : Oper} {a : Act} {C : World → Prop} {K : Act → Prop} {x y z : Operand} {b : Nat}
theorem q_fa0 (ho : o.op = .fieldAddr 30 x 0) (hp : a.eval x = .pointer (some ⟨b, 0, none⟩)) (hK : K (a.put o.dst (.pointer (some ⟨b, 0, none⟩)))) : o.quiet Tryz.prog a C K := by
  refine q_run (v := .pointer (some ⟨b, 0, none⟩)) (fun w hw => ?_) hK
  obtain ⟨dst, op, ty, pos, after, guard⟩ := o
  subst ho
  simp only [execOp, hp]
  go_simp
theorem q_fa1 (ho : o.op = .fieldAddr 30 x 1) (hp : a.eval x = .pointer (some ⟨b, 0, none⟩)) (hK : K (a.put o.dst (.pointer (some ⟨b, 2, none⟩)))) : o.quiet Tryz.prog a C K := by
  refine q_run (v := .pointer (some ⟨b, 2, none⟩)) (fun w hw => ?_) hK
  obtain ⟨dst, op, ty, pos, after, guard⟩ := o
  subst ho
  simp only [execOp, hp]
  go_simp
theorem q_fa2 (ho : o.op = .fieldAddr 30 x 2) (hp : a.eval x = .pointer (some ⟨b, 0, none⟩)) (hK : K (a.put o.dst (.pointer (some ⟨b, 4, none⟩)))) : o.quiet Tryz.prog a C K := by
  refine q_run (v := .pointer (some ⟨b, 4, none⟩)) (fun w hw => ?_) hK
  obtain ⟨dst, op, ty, pos, after, guard⟩ := o
  subst ho
  simp only [execOp, hp]
  go_simp
theorem q_fa3 (ho : o.op = .fieldAddr 30 x 3) (hp : a.eval x = .pointer (some ⟨b, 0, none⟩)) (hK : K (a.put o.dst (.pointer (some ⟨b, 6, none⟩)))) : o.quiet Tryz.prog a C K := by
  refine q_run (v := .pointer (some ⟨b, 6, none⟩)) (fun w hw => ?_) hK
  obtain ⟨dst, op, ty, pos, after, guard⟩ := o
  subst ho
  simp only [execOp, hp]
  go_simp
theorem q_fa4 (ho : o.op = .fieldAddr 30 x 4) (hp : a.eval x = .pointer (some ⟨b, 0, none⟩)) (hK : K (a.put o.dst (.pointer (some ⟨b, 8, none⟩)))) : o.quiet Tryz.prog a C K := by
  refine q_run (v := .pointer (some ⟨b, 8, none⟩)) (fun w hw => ?_) hK
  obtain ⟨dst, op, ty, pos, after, guard⟩ := o
  subst ho
  simp only [execOp, hp]
  go_simp
theorem q_fU0 {o0 : Nat} (ho : o.op = .fieldAddr 26 x 0) (hp : a.eval x = .pointer (some ⟨b, o0, none⟩)) (hK : K (a.put o.dst (.pointer (some ⟨b, o0 + 0, none⟩)))) : o.quiet Tryz.prog a C K := by
  refine q_run (v := .pointer (some ⟨b, o0 + 0, none⟩)) (fun w hw => ?_) hK
  obtain ⟨dst, op, ty, pos, after, guard⟩ := o
  subst ho
  simp only [execOp, hp]
  go_simp
theorem q_fS0 {o0 : Nat} (ho : o.op = .fieldAddr 28 x 0) (hp : a.eval x = .pointer (some ⟨b, o0, none⟩)) (hK : K (a.put o.dst (.pointer (some ⟨b, o0 + 0, none⟩)))) : o.quiet Tryz.prog a C K := by
  refine q_run (v := .pointer (some ⟨b, o0 + 0, none⟩)) (fun w hw => ?_) hK
  obtain ⟨dst, op, ty, pos, after, guard⟩ := o
  subst ho
  simp only [execOp, hp]
  go_simp
theorem q_fT0 {o0 : Nat} (ho : o.op = .fieldAddr 24 x 0) (hp : a.eval x = .pointer (some ⟨b, o0, none⟩)) (hK : K (a.put o.dst (.pointer (some ⟨b, o0 + 0, none⟩)))) : o.quiet Tryz.prog a C K := by
  refine q_run (v := .pointer (some ⟨b, o0 + 0, none⟩)) (fun w hw => ?_) hK
  obtain ⟨dst, op, ty, pos, after, guard⟩ := o
  subst ho
  simp only [execOp, hp]
  go_simp
theorem q_fU1 {o0 : Nat} (ho : o.op = .fieldAddr 26 x 1) (hp : a.eval x = .pointer (some ⟨b, o0, none⟩)) (hK : K (a.put o.dst (.pointer (some ⟨b, o0 + 1, none⟩)))) : o.quiet Tryz.prog a C K := by
  refine q_run (v := .pointer (some ⟨b, o0 + 1, none⟩)) (fun w hw => ?_) hK
  obtain ⟨dst, op, ty, pos, after, guard⟩ := o
  subst ho
  simp only [execOp, hp]
  go_simp
theorem q_fS1 {o0 : Nat} (ho : o.op = .fieldAddr 28 x 1) (hp : a.eval x = .pointer (some ⟨b, o0, none⟩)) (hK : K (a.put o.dst (.pointer (some ⟨b, o0 + 1, none⟩)))) : o.quiet Tryz.prog a C K := by
  refine q_run (v := .pointer (some ⟨b, o0 + 1, none⟩)) (fun w hw => ?_) hK
  obtain ⟨dst, op, ty, pos, after, guard⟩ := o
  subst ho
  simp only [execOp, hp]
  go_simp
theorem q_fT1 {o0 : Nat} (ho : o.op = .fieldAddr 24 x 1) (hp : a.eval x = .pointer (some ⟨b, o0, none⟩)) (hK : K (a.put o.dst (.pointer (some ⟨b, o0 + 1, none⟩)))) : o.quiet Tryz.prog a C K := by
  refine q_run (v := .pointer (some ⟨b, o0 + 1, none⟩)) (fun w hw => ?_) hK
  obtain ⟨dst, op, ty, pos, after, guard⟩ := o
  subst ho
  simp only [execOp, hp]
  go_simp
theorem q_pT {o0 : Nat} {cs : Array Value} {t : TypeId} {v0 v1 : Value} (ho : o.op = .load 24 x) (hp : a.eval x = .pointer (some ⟨b, o0, none⟩)) (h : ∀ w, C w → AtA w b cs t) (h0 : cs[o0]? = some v0) (h1 : cs[o0 + 1]? = some v1) (hK : K (a.put o.dst (.agg #[v0, v1]))) : o.quiet Tryz.prog a C K := by
  refine q_run (v := .agg #[v0, v1]) (fun w hw => ?_) hK
  have d0 := ((h w hw).cell o0).trans h0
  have d1 := ((h w hw).cell (o0 + 1)).trans h1
  obtain ⟨dst, op, ty, pos, after, guard⟩ := o
  subst ho
  simp only [execOp, hp]
  go_simp
theorem q_pU {o0 : Nat} {cs : Array Value} {t : TypeId} {v0 v1 : Value} (ho : o.op = .load 26 x) (hp : a.eval x = .pointer (some ⟨b, o0, none⟩)) (h : ∀ w, C w → AtA w b cs t) (h0 : cs[o0]? = some v0) (h1 : cs[o0 + 1]? = some v1) (hK : K (a.put o.dst (.agg #[v0, v1]))) : o.quiet Tryz.prog a C K := by
  refine q_run (v := .agg #[v0, v1]) (fun w hw => ?_) hK
  have d0 := ((h w hw).cell o0).trans h0
  have d1 := ((h w hw).cell (o0 + 1)).trans h1
  obtain ⟨dst, op, ty, pos, after, guard⟩ := o
  subst ho
  simp only [execOp, hp]
  go_simp
theorem q_pS {o0 : Nat} {cs : Array Value} {t : TypeId} {v0 v1 : Value} (ho : o.op = .load 28 x) (hp : a.eval x = .pointer (some ⟨b, o0, none⟩)) (h : ∀ w, C w → AtA w b cs t) (h0 : cs[o0]? = some v0) (h1 : cs[o0 + 1]? = some v1) (hK : K (a.put o.dst (.agg #[v0, v1]))) : o.quiet Tryz.prog a C K := by
  refine q_run (v := .agg #[v0, v1]) (fun w hw => ?_) hK
  have d0 := ((h w hw).cell o0).trans h0
  have d1 := ((h w hw).cell (o0 + 1)).trans h1
  obtain ⟨dst, op, ty, pos, after, guard⟩ := o
  subst ho
  simp only [execOp, hp]
  go_simp
theorem q_p64 {o0 : Nat} {cs : Array Value} {t : TypeId} {v0 : Value} (ho : o.op = .load 22 x) (hp : a.eval x = .pointer (some ⟨b, o0, none⟩)) (h : ∀ w, C w → AtA w b cs t) (h0 : cs[o0]? = some v0) (hK : K (a.put o.dst v0)) : o.quiet Tryz.prog a C K := by
  refine q_run (v := v0) (fun w hw => ?_) hK
  have d0 := ((h w hw).cell o0).trans h0
  obtain ⟨dst, op, ty, pos, after, guard⟩ := o
  subst ho
  simp only [execOp, hp]
  go_simp
theorem q_neB {d : Bd} (ho : o.op = .binOp .neq 30 x y 30) (hx : a.eval x = .agg (bv d)) (hy : a.eval y = .agg (bv d)) (hK : K (a.put o.dst (.bool false))) : o.quiet Tryz.prog a C K := by
  refine q_run (v := .bool false) (fun w hw => ?_) hK
  obtain ⟨dst, op, ty, pos, after, guard⟩ := o
  subst ho
  simp only [execOp, hx, hy, bv]
  go_simp
theorem q_extract {i : Nat} {vs : Array Value} {v : Value} (ho : o.op = .extract x i) (hx : a.eval x = .tuple vs) (hi : vs[i]? = some v) (hK : K (a.put o.dst v)) : o.quiet Tryz.prog a C K := by
  refine q_run (v := v) (fun w hw => ?_) hK
  obtain ⟨dst, op, ty, pos, after, guard⟩ := o
  subst ho
  simp only [execOp, hx]
  go_simp
theorem q_buildB {x0 x1 x2 x3 x4 : Operand} {v0 v1 v2 v3 v4 v5 v6 v7 v8 v9 : Int} (ho : o.op = .build 30 #[(0, x0), (1, x1), (2, x2), (3, x3), (4, x4)]) (e0 : a.eval x0 = .agg #[.int .u64 v0, .int .u64 v1]) (e1 : a.eval x1 = .agg #[.int .u64 v2, .int .u64 v3]) (e2 : a.eval x2 = .agg #[.int .i64 v4, .int .i64 v5]) (e3 : a.eval x3 = .agg #[.int .u64 v6, .int .u64 v7]) (e4 : a.eval x4 = .agg #[.int .i64 v8, .int .i64 v9])
    (hK : K (a.put o.dst (.agg #[.int .u64 v0, .int .u64 v1, .int .u64 v2, .int .u64 v3, .int .i64 v4, .int .i64 v5, .int .u64 v6, .int .u64 v7, .int .i64 v8, .int .i64 v9]))) : o.quiet Tryz.prog a C K := by
  refine q_run (v := .agg #[.int .u64 v0, .int .u64 v1, .int .u64 v2, .int .u64 v3, .int .i64 v4, .int .i64 v5, .int .u64 v6, .int .u64 v7, .int .i64 v8, .int .i64 v9]) (fun w hw => ?_) hK
  obtain ⟨dst, op, ty, pos, after, guard⟩ := o
  subst ho
  simp only [execOp, List.map_toArray, List.map_cons, List.map_nil, e0, e1, e2, e3, e4]
  go_simp
end
section
variable {o : Oper} {a : Act} {w : World} {K : Act → World → Prop} {Q : Exit → Act → World → Prop} {p x : Operand} {b : Nat} {d : Bd}
theorem wp_fa {k off : Nat} {v : Value} (ho : o.op = .fieldAddr 30 p k) (hp : a.eval p = .pointer (some ⟨b, 0, none⟩)) (hr : (execOp a.eval o).run Tryz.prog w = .ok (.value v) w) (hK : K (a.put o.dst v) w) : o.wp Tryz.prog a w K Q := by
  unfold Oper.wp
  rw [hr]
  exact hK
theorem wp_fa0 (ho : o.op = .fieldAddr 30 p 0) (hp : a.eval p = .pointer (some ⟨b, 0, none⟩)) (hK : K (a.put o.dst (.pointer (some ⟨b, 0, none⟩))) w) : o.wp Tryz.prog a w K Q := by
  obtain ⟨dst, op, ty, pos, after, guard⟩ := o
  subst ho
  unfold Oper.wp
  simp only [execOp, hp]
  go_simp
  exact hK
theorem wp_fa1 (ho : o.op = .fieldAddr 30 p 1) (hp : a.eval p = .pointer (some ⟨b, 0, none⟩)) (hK : K (a.put o.dst (.pointer (some ⟨b, 2, none⟩))) w) : o.wp Tryz.prog a w K Q := by
  obtain ⟨dst, op, ty, pos, after, guard⟩ := o
  subst ho
  unfold Oper.wp
  simp only [execOp, hp]
  go_simp
  exact hK
theorem wp_fa2 (ho : o.op = .fieldAddr 30 p 2) (hp : a.eval p = .pointer (some ⟨b, 0, none⟩)) (hK : K (a.put o.dst (.pointer (some ⟨b, 4, none⟩))) w) : o.wp Tryz.prog a w K Q := by
  obtain ⟨dst, op, ty, pos, after, guard⟩ := o
  subst ho
  unfold Oper.wp
  simp only [execOp, hp]
  go_simp
  exact hK
theorem wp_fa3 (ho : o.op = .fieldAddr 30 p 3) (hp : a.eval p = .pointer (some ⟨b, 0, none⟩)) (hK : K (a.put o.dst (.pointer (some ⟨b, 6, none⟩))) w) : o.wp Tryz.prog a w K Q := by
  obtain ⟨dst, op, ty, pos, after, guard⟩ := o
  subst ho
  unfold Oper.wp
  simp only [execOp, hp]
  go_simp
  exact hK
theorem wp_fa4 (ho : o.op = .fieldAddr 30 p 4) (hp : a.eval p = .pointer (some ⟨b, 0, none⟩)) (hK : K (a.put o.dst (.pointer (some ⟨b, 8, none⟩))) w) : o.wp Tryz.prog a w K Q := by
  obtain ⟨dst, op, ty, pos, after, guard⟩ := o
  subst ho
  unfold Oper.wp
  simp only [execOp, hp]
  go_simp
  exact hK
theorem wp_stT {v m : BitVec 64} (ho : o.op = .store 24 p x) (hp : a.eval p = .pointer (some ⟨b, 0, none⟩)) (hx : a.eval x = .agg #[.int .u64 (iv v), .int .u64 (iv m)]) (h : AtA w b (bv d) 30)
    (hK : ∀ w', AtA w' b (bv { d with tv := v, tm := m }) 30 → GrX b w w' → K (a.put o.dst undef) w') : o.wp Tryz.prog a w K Q :=
  wp_store_tnum ho hp hx h rfl rfl hK
theorem wp_stU {l u : Int} (ho : o.op = .store 26 p x) (hp : a.eval p = .pointer (some ⟨b, 2, none⟩)) (hx : a.eval x = .agg #[.int .u64 l, .int .u64 u]) (h : AtA w b (bv d) 30)
    (hK : ∀ w', AtA w' b (bv { d with ul := l, uh := u }) 30 → GrX b w w' → K (a.put o.dst undef) w') : o.wp Tryz.prog a w K Q :=
  wp_store_span ho hp hx h rfl rfl hK
theorem wp_stS {l u : Int} (ho : o.op = .store 28 p x) (hp : a.eval p = .pointer (some ⟨b, 4, none⟩)) (hx : a.eval x = .agg #[.int .i64 l, .int .i64 u]) (h : AtA w b (bv d) 30)
    (hK : ∀ w', AtA w' b (bv { d with sl := l, sh := u }) 30 → GrX b w w' → K (a.put o.dst undef) w') : o.wp Tryz.prog a w K Q :=
  wp_store_reach ho hp hx h rfl rfl hK
theorem wp_stW {l u : Int} (ho : o.op = .store 26 p x) (hp : a.eval p = .pointer (some ⟨b, 6, none⟩)) (hx : a.eval x = .agg #[.int .u64 l, .int .u64 u]) (h : AtA w b (bv d) 30)
    (hK : ∀ w', AtA w' b (bv { d with wl := l, wh := u }) 30 → GrX b w w' → K (a.put o.dst undef) w') : o.wp Tryz.prog a w K Q :=
  wp_store_span ho hp hx h rfl rfl hK
theorem wp_stV {l u : Int} (ho : o.op = .store 28 p x) (hp : a.eval p = .pointer (some ⟨b, 8, none⟩)) (hx : a.eval x = .agg #[.int .i64 l, .int .i64 u]) (h : AtA w b (bv d) 30)
    (hK : ∀ w', AtA w' b (bv { d with vl := l, vh := u }) 30 → GrX b w w' → K (a.put o.dst undef) w') : o.wp Tryz.prog a w K Q :=
  wp_store_reach ho hp hx h rfl rfl hK
theorem wp_pT {o0 : Nat} {cs : Array Value} {t : TypeId} {v0 v1 : Value} (ho : o.op = .load 24 p) (hp : a.eval p = .pointer (some ⟨b, o0, none⟩)) (h : AtA w b cs t) (h0 : cs[o0]? = some v0) (h1 : cs[o0 + 1]? = some v1)
    (hK : K (a.put o.dst (.agg #[v0, v1])) w) : o.wp Tryz.prog a w K Q :=
  wp_load_tnum ho hp h h0 h1 hK
theorem wp_pU {o0 : Nat} {cs : Array Value} {t : TypeId} {v0 v1 : Value} (ho : o.op = .load 26 p) (hp : a.eval p = .pointer (some ⟨b, o0, none⟩)) (h : AtA w b cs t) (h0 : cs[o0]? = some v0) (h1 : cs[o0 + 1]? = some v1)
    (hK : K (a.put o.dst (.agg #[v0, v1])) w) : o.wp Tryz.prog a w K Q :=
  wp_load_span ho hp h h0 h1 hK
theorem wp_pS {o0 : Nat} {cs : Array Value} {t : TypeId} {v0 v1 : Value} (ho : o.op = .load 28 p) (hp : a.eval p = .pointer (some ⟨b, o0, none⟩)) (h : AtA w b cs t) (h0 : cs[o0]? = some v0) (h1 : cs[o0 + 1]? = some v1)
    (hK : K (a.put o.dst (.agg #[v0, v1])) w) : o.wp Tryz.prog a w K Q :=
  wp_load_reach ho hp h h0 h1 hK
end
theorem seq_do {P : Program} {Q : Exit → Act → World → Prop} {o : Oper} {t : List Oper} {a : Act} {w : World} (h : o.wp P a w (seqW P Q t) Q) : seqW P Q (o :: t) a w := h
theorem seq_end {P : Program} {Q : Exit → Act → World → Prop} {a : Act} {w : World} (h : Q .normal a w) : seqW P Q [] a w := h
theorem wp_region_qln {P : Program} {C : World → Prop} {Q : Exit → Act → World → Prop} {id : Nat} {a : Act} {w : World} {L : List Oper} (n : Nat) (hm : P.follows .mixedOrders = true) (hB : Region.lexB .any (L.take n).toArray = true) (hg : (L.take n).all (fun o => o.guard.isNone) = true) (hb : backB .any 0 (L.take n) = true) (hs : tailB .any L (L.take n).length (L.drop n) = true) (hC : C w.drew)
    (h : wpQuiet P (L.take n).toArray C (fun a' => ∀ w', C w' → seqW P Q (L.drop n) a' w') (L.take n) a) : (Code.region id L.toArray true).wp P Q a w := by
  have e : L.take n ++ L.drop n = L := List.take_append_drop n L
  have k := wp_region_ql (id := id) (l := L.take n) (L.drop n) hm hB hg hb (by rw [e]; exact hs) hC h
  rw [e] at k
  exact k
section
variable {o : Oper} {a : Act} {w : World} {K : Act → World → Prop} {Q : Exit → Act → World → Prop} {p x : Operand} {b : Nat}
theorem wp_allocT (ho : o.op = .alloc 24)
    (hK : ∀ w', AtA w' w.heap.size #[.int .u64 0, .int .u64 0] 24 → Gr w w' → K (a.put o.dst (.pointer (some ⟨w.heap.size, 0, none⟩))) w') : o.wp Tryz.prog a w K Q :=
  wp_alloc_tnum ho (hK _ (AtA.newb _ rfl _ _) (Gr.alloc (Gr.refl w) _ _))
theorem wp_storeT {c0 c1 : Value} {n0 n1 : Int} (ho : o.op = .store 24 p x) (hp : a.eval p = .pointer (some ⟨b, 0, none⟩)) (hx : a.eval x = .agg #[.int .u64 n0, .int .u64 n1]) (h : AtA w b #[c0, c1] 24)
    (hK : ∀ w', AtA w' b #[.int .u64 n0, .int .u64 n1] 24 → GrX b w w' → K (a.put o.dst undef) w') : o.wp Tryz.prog a w K Q :=
  wp_store_tnum ho hp hx h rfl rfl hK
end
section
variable {o : Oper} {a : Act} {C : World → Prop} {K : Act → Prop} {x y : Operand}
theorem q_eq64 {m n : Int} {r : Bool} (ho : o.op = .binOp .eql 22 x y 22) (hx : a.eval x = .int .u64 m) (hy : a.eval y = .int .u64 n) (hr : (m == n) = r) (hK : K (a.put o.dst (.bool r))) : o.quiet Tryz.prog a C K := by
  refine q_run (v := .bool r) (fun w hw => ?_) hK
  obtain ⟨dst, op, ty, pos, after, guard⟩ := o
  subst ho
  subst hr
  simp only [execOp, hx, hy]
  go_simp
theorem q_callv2 {f : FuncId} {tys : Array TypeId} {x0 x1 : Operand} {u0 u1 v : Value} (ho : o.op = .call { callee := .value x, args := #[x0, x1], argTypes := tys }) (hx : a.eval x = .func (.func f) #[] #[]) (e0 : a.eval x0 = u0) (e1 : a.eval x1 = u1) (hf : ∀ w, (callFunc f #[u0, u1]).run Tryz.prog w = .ok (.enter f #[u0, u1]) w)
    (hc : ∀ w, C w → Calls Tryz.prog f #[u0, u1] w fun e w' => e = .returned v ∧ C w') (hK : K (a.put o.dst v)) : o.quiet Tryz.prog a C K := by
  refine q_enter (v := v) (f := f) (args := #[u0, u1]) (fun w => ?_) hc hK
  obtain ⟨dst, op, ty, pos, after, guard⟩ := o
  subst ho
  have hf := hf w
  simp only [execOp, resolve, List.map_toArray, List.map_cons, List.map_nil, hx, e0, e1]
  go_simp
  try exact hf
theorem q_buildU1 {x1 : Operand} {v : Int} (ho : o.op = .build 26 #[(1, x1)]) (e1 : a.eval x1 = .int .u64 v) (hK : K (a.put o.dst (.agg #[.int .u64 0, .int .u64 v]))) : o.quiet Tryz.prog a C K := by
  refine q_run (v := .agg #[.int .u64 0, .int .u64 v]) (fun w hw => ?_) hK
  obtain ⟨dst, op, ty, pos, after, guard⟩ := o
  subst ho
  simp only [execOp, List.map_toArray, List.map_cons, List.map_nil, e1]
  go_simp
end
theorem wpOps_of_qs {P : Program} {ops : Array Oper} {C : World → Prop} {Q : Exit → Act → World → Prop} {R : Act → Prop} {s : List Oper} (hg : s.all (fun o => o.guard.isNone) = true) (hQ : ∀ a w, C w → R a → seqW P Q s a w) : ∀ (l : List Oper) (k : Nat) (a : Act) (w : World), (∀ j, (l ++ s)[j]? = ops[k + j]?) → C w → wpQuiet P ops C R l a → wpOps P ops Q (List.range' k (l.length + s.length)) a w
  | [], k, a, w, hl, hC, h => by
    rw [List.length_nil, Nat.zero_add]
    exact wpOps_of_seq s k a w (fun j => by simpa using hl j) hg (hQ a w hC h)
  | o :: l, k, a, w, hl, hC, h => by
    have h0 : ops[k]? = some o := by simpa using (hl 0).symm
    have hl' : ∀ j, (l ++ s)[j]? = ops[k + 1 + j]? := fun j => by have := hl (j + 1); simpa [Nat.add_assoc, Nat.add_comm 1 j] using this
    rw [List.length_cons, show l.length + 1 + s.length = (l.length + s.length) + 1 by omega, List.range'_succ]
    unfold wpOps
    simp only [h0]
    unfold wpQuiet at h
    split
    · rename_i hw
      rw [if_pos hw] at h
      exact .inl (Oper.wp_of_quiet hC (fun a' w' hC' hK => wpOps_of_qs hg hQ l (k + 1) a' w' hl' hC' hK) h)
    · rename_i hw
      rw [if_neg hw] at h
      exact wpOps_of_qs hg hQ l (k + 1) _ w hl' hC h
/-- A region of the text's order, quiet but for its end. -/
theorem wp_region_sqn {P : Program} {C : World → Prop} {Q : Exit → Act → World → Prop} {id : Nat} {a : Act} {w : World} {L : List Oper} (n : Nat) (hg : (L.drop n).all (fun o => o.guard.isNone) = true) (hC : C w)
    (h : wpQuiet P L.toArray C (fun a' => ∀ w', C w' → seqW P Q (L.drop n) a' w') (L.take n) a) : (Code.region id L.toArray false).wp P Q a w := by
  refine wp_region ?_
  have e : L.take n ++ L.drop n = L := List.take_append_drop n L
  have k := wpOps_of_qs (P := P) (ops := L.toArray) (C := C) (Q := Q) hg (fun a w hC h => h w hC) (L.take n) 0 a w (fun j => by rw [e]; simp) hC h
  have e2 : (L.take n).length + (L.drop n).length = L.length := by rw [← List.length_append, e]
  rw [e2] at k
  rw [List.range_eq_range']
  simpa using k
/-- A bound's cells, read as a result. -/
theorem cells_bv {w : World} {b : Nat} {d : Bd} (h : AtA w b (bv d) 30) : w.cell? ⟨b, 0, none⟩ = some (.int .u64 (iv d.tv)) ∧ w.cell? ⟨b, 1, none⟩ = some (.int .u64 (iv d.tm)) ∧ w.cell? ⟨b, 2, none⟩ = some (.int .u64 d.ul) ∧ w.cell? ⟨b, 3, none⟩ = some (.int .u64 d.uh) ∧ w.cell? ⟨b, 4, none⟩ = some (.int .i64 d.sl) ∧ w.cell? ⟨b, 5, none⟩ = some (.int .i64 d.sh) ∧ w.cell? ⟨b, 6, none⟩ = some (.int .u64 d.wl) ∧ w.cell? ⟨b, 7, none⟩ = some (.int .u64 d.wh) ∧ w.cell? ⟨b, 8, none⟩ = some (.int .i64 d.vl) ∧ w.cell? ⟨b, 9, none⟩ = some (.int .i64 d.vh) :=
  ⟨h.cell 0, h.cell 1, h.cell 2, h.cell 3, h.cell 4, h.cell 5, h.cell 6, h.cell 7, h.cell 8, h.cell 9⟩
end Go.Proofs.YtekenpgagfmgkaaGreat
end
section
namespace Go.Proofs.YtekenpgagfmgkaaGreat
open Go.ChangeShapes Go.WideShapes Go.ChangeAt Go.RowKit
open Tn (iv)
set_option linter.unusedVariables false

theorem inU_w (z : Int) : InU (IntKind.u64.wrap z) := by
  unfold InU
  rw [IntKind.wrap_u64]
  omega
theorem inS_w (z : Int) : InS (wrap64 z) := by
  unfold InS wrap64
  omega
theorem inU_eN {q : Bool} {a b : Int} (h : InU a) (k : InU b) : InU (eN q a b) := by
  unfold eN
  split
  · exact h
  · exact k
theorem inS_eN {q : Bool} {a b : Int} (h : InS a) (k : InS b) : InS (eN q a b) := by
  unfold eN
  split
  · exact h
  · exact k
theorem inU_eE {p q : Bool} {a b : Int} (h : InU a) (k : InU b) : InU (eE p q a b) := by
  unfold eE
  split
  · exact h
  · exact k
theorem inS_eE {p q : Bool} {a b : Int} (h : InS a) (k : InS b) : InS (eE p q a b) := by
  unfold eE
  split
  · exact h
  · exact k
theorem inU0 : InU 0 := by unfold InU; omega
theorem inU1 : InU 1 := by unfold InU; omega
theorem inUm : InU 18446744073709551615 := by unfold InU; omega
theorem inS0 : InS 0 := by unfold InS; omega
theorem inS1 : InS 1 := by unfold InS; omega
theorem inSm : InS 9223372036854775807 := by unfold InS; omega
theorem inSn : InS (-9223372036854775808) := by unfold InS; omega
theorem e_add {al ah bl bh x y : Int} (i0 : InU al) (i1 : InU ah) (i2 : InU bl) (i3 : InU bh) (n1 : al ≤ x) (n2 : x ≤ ah) (n3 : bl ≤ y) (n4 : y ≤ bh) : ∃ l h : Int, InU l ∧ InU h ∧ l ≤ IntKind.u64.wrap (x + y) ∧ IntKind.u64.wrap (x + y) ≤ h ∧ ∀ w, Calls Tryz.prog 178 #[.agg #[.int .u64 al, .int .u64 ah], .agg #[.int .u64 bl, .int .u64 bh]] w fun e w' => e = .returned (.agg #[.int .u64 l, .int .u64 h]) ∧ Gr w w' := by
  have k := add_in i0 i1 i2 i3 n1 n2 n3 n4
  rw [Bool.and_eq_true, decide_eq_true_eq, decide_eq_true_eq] at k
  exact ⟨_, _, inU_eN inU1 (inU_eE (inU_w _) inU0), inU_eN inU0 (inU_eE (inU_w _) inUm), k.1, k.2, fun w => add_any al ah bl bh i0 i1 i2 i3 w⟩
theorem e_sub {al ah bl bh x y : Int} (i0 : InU al) (i1 : InU ah) (i2 : InU bl) (i3 : InU bh) (n1 : al ≤ x) (n2 : x ≤ ah) (n3 : bl ≤ y) (n4 : y ≤ bh) : ∃ l h : Int, InU l ∧ InU h ∧ l ≤ IntKind.u64.wrap (x - y) ∧ IntKind.u64.wrap (x - y) ≤ h ∧ ∀ w, Calls Tryz.prog 183 #[.agg #[.int .u64 al, .int .u64 ah], .agg #[.int .u64 bl, .int .u64 bh]] w fun e w' => e = .returned (.agg #[.int .u64 l, .int .u64 h]) ∧ Gr w w' := by
  have k := sub_in i0 i1 i2 i3 n1 n2 n3 n4
  rw [Bool.and_eq_true, decide_eq_true_eq, decide_eq_true_eq] at k
  exact ⟨_, _, inU_eN inU1 (inU_eE (inU_w _) inU0), inU_eN inU0 (inU_eE (inU_w _) inUm), k.1, k.2, fun w => sub_any al ah bl bh i0 i1 i2 i3 w⟩
theorem e_mul {al ah bl bh x y : Int} (i0 : InU al) (i1 : InU ah) (i2 : InU bl) (i3 : InU bh) (n1 : al ≤ x) (n2 : x ≤ ah) (n3 : bl ≤ y) (n4 : y ≤ bh) : ∃ l h : Int, InU l ∧ InU h ∧ l ≤ IntKind.u64.wrap (x * y) ∧ IntKind.u64.wrap (x * y) ≤ h ∧ ∀ w, Calls Tryz.prog 186 #[.agg #[.int .u64 al, .int .u64 ah], .agg #[.int .u64 bl, .int .u64 bh]] w fun e w' => e = .returned (.agg #[.int .u64 l, .int .u64 h]) ∧ Gr w w' := by
  have k := mul_in i0 i1 i2 i3 n1 n2 n3 n4
  rw [Bool.and_eq_true, decide_eq_true_eq, decide_eq_true_eq] at k
  exact ⟨_, _, inU_eN inU1 (inU_eE (inU_w _) inU0), inU_eN inU0 (inU_eE (inU_w _) inUm), k.1, k.2, fun w => mul_any al ah bl bh i0 i1 i2 i3 w⟩
theorem e_plus {al ah bl bh x y : Int} (i0 : InS al) (i1 : InS ah) (i2 : InS bl) (i3 : InS bh) (n1 : al ≤ x) (n2 : x ≤ ah) (n3 : bl ≤ y) (n4 : y ≤ bh) : ∃ l h : Int, InS l ∧ InS h ∧ l ≤ wrap64 (x + y) ∧ wrap64 (x + y) ≤ h ∧ ∀ w, Calls Tryz.prog 179 #[.agg #[.int .i64 al, .int .i64 ah], .agg #[.int .i64 bl, .int .i64 bh]] w fun e w' => e = .returned (.agg #[.int .i64 l, .int .i64 h]) ∧ Gr w w' := by
  have k := plus_in i0 i1 i2 i3 n1 n2 n3 n4
  rw [Bool.and_eq_true, decide_eq_true_eq, decide_eq_true_eq] at k
  exact ⟨_, _, inS_eN inS1 (inS_eE (inS_w _) inSn), inS_eN inS0 (inS_eE (inS_w _) inSm), k.1, k.2, fun w => plus_any al ah bl bh i0 i1 i2 i3 w⟩
theorem e_minus {al ah bl bh x y : Int} (i0 : InS al) (i1 : InS ah) (i2 : InS bl) (i3 : InS bh) (n1 : al ≤ x) (n2 : x ≤ ah) (n3 : bl ≤ y) (n4 : y ≤ bh) : ∃ l h : Int, InS l ∧ InS h ∧ l ≤ wrap64 (x - y) ∧ wrap64 (x - y) ≤ h ∧ ∀ w, Calls Tryz.prog 184 #[.agg #[.int .i64 al, .int .i64 ah], .agg #[.int .i64 bl, .int .i64 bh]] w fun e w' => e = .returned (.agg #[.int .i64 l, .int .i64 h]) ∧ Gr w w' := by
  have k := minus_in i0 i1 i2 i3 n1 n2 n3 n4
  rw [Bool.and_eq_true, decide_eq_true_eq, decide_eq_true_eq] at k
  exact ⟨_, _, inS_eN inS1 (inS_eE (inS_w _) inSn), inS_eN inS0 (inS_eE (inS_w _) inSm), k.1, k.2, fun w => minus_any al ah bl bh i0 i1 i2 i3 w⟩
theorem e_shl {al ah x : Int} (i0 : InU al) (i1 : InU ah) (i2 : InU x) (n : Nat) (n1 : al ≤ x) (n2 : x ≤ ah) : ∃ l h : Int, InU l ∧ InU h ∧ l ≤ IntKind.u64.wrap (x * 2 ^ min n 64) ∧ IntKind.u64.wrap (x * 2 ^ min n 64) ≤ h ∧ ∀ w, Calls Tryz.prog 197 #[.agg #[.int .u64 al, .int .u64 ah], .int .u64 (n : Int)] w fun e w' => e = .returned (.agg #[.int .u64 l, .int .u64 h]) ∧ Gr w w' := by
  have k := shl_in i0 i1 i2 n n1 n2
  rw [Bool.and_eq_true, decide_eq_true_eq, decide_eq_true_eq] at k
  exact ⟨_, _, inU_eN inU1 (inU_eE (inU_w _) inU0), inU_eN inU0 (inU_eE (inU_w _) inUm), k.1, k.2, fun w => shl_any al ah i0 i1 n w⟩
theorem inU_div {z : Int} (h : InU z) (n : Nat) : InU (z / 2 ^ n) := by
  unfold InU at *
  have hp : (0 : Int) < 2 ^ n := by exact Int.pow_pos (by decide)
  exact ⟨Int.ediv_nonneg h.1 (Int.le_of_lt hp), Int.le_trans (Int.ediv_le_self _ h.1) h.2⟩
theorem inS_div {z : Int} (h : InS z) (n : Nat) : InS (z / 2 ^ n) := by
  unfold InS at *
  have hp : (0 : Int) < 2 ^ n := by exact Int.pow_pos (by decide)
  constructor
  · rw [Int.le_ediv_iff_mul_le hp]
    have : (1 : Int) ≤ 2 ^ n := hp
    have h2 : (-9223372036854775808 : Int) * 2 ^ n ≤ -9223372036854775808 := by
      have := Int.mul_le_mul_of_nonneg_left this (show (0 : Int) ≤ 9223372036854775808 by decide)
      omega
    omega
  · by_cases hz : 0 ≤ z
    · exact Int.le_trans (Int.ediv_le_self _ hz) h.2
    · have : z / 2 ^ n < 0 := Int.ediv_neg_of_neg_of_pos (by omega) hp
      omega
theorem e_shr {al ah x : Int} (i0 : InU al) (i1 : InU ah) (i2 : InU x) (n : Nat) (n1 : al ≤ x) (n2 : x ≤ ah) : ∃ l h : Int, InU l ∧ InU h ∧ l ≤ x / 2 ^ min n 64 ∧ x / 2 ^ min n 64 ≤ h ∧ ∀ w, Calls Tryz.prog 199 #[.agg #[.int .u64 al, .int .u64 ah], .int .u64 (n : Int)] w fun e w' => e = .returned (.agg #[.int .u64 l, .int .u64 h]) ∧ Gr w w' := by
  have k := shr_in n n1 n2
  rw [Bool.and_eq_true, decide_eq_true_eq, decide_eq_true_eq] at k
  exact ⟨_, _, inU_eN inU1 (inU_eE (inU_div i0 _) inU0), inU_eN inU0 (inU_eE (inU_div i1 _) inUm), k.1, k.2, fun w => shr_any al ah i0 i1 n w⟩
theorem e_sar {al ah x : Int} (i0 : InS al) (i1 : InS ah) (i2 : InS x) (n : Nat) (n1 : al ≤ x) (n2 : x ≤ ah) : ∃ l h : Int, InS l ∧ InS h ∧ l ≤ x / 2 ^ min n 63 ∧ x / 2 ^ min n 63 ≤ h ∧ ∀ w, Calls Tryz.prog 201 #[.agg #[.int .i64 al, .int .i64 ah], .int .u64 (n : Int)] w fun e w' => e = .returned (.agg #[.int .i64 l, .int .i64 h]) ∧ Gr w w' := by
  have k := sar_in n n1 n2
  rw [Bool.and_eq_true, decide_eq_true_eq, decide_eq_true_eq] at k
  exact ⟨_, _, inS_eN inS1 (inS_eE (inS_div i0 _) inSn), inS_eN inS0 (inS_eE (inS_div i1 _) inSm), k.1, k.2, fun w => sar_any al ah i0 i1 n w⟩
theorem inU_div' {z d : Int} (h : InU z) (k : InU d) : InU (z / d) := by
  unfold InU at *
  exact ⟨Int.ediv_nonneg h.1 k.1, Int.le_trans (Int.ediv_le_self _ h.1) h.2⟩
theorem e_div {al ah bl bh x y : Int} (i0 : InU al) (i1 : InU ah) (i2 : InU bl) (i3 : InU bh) (n1 : al ≤ x) (n2 : x ≤ ah) (n3 : bl ≤ y) (n4 : y ≤ bh) (v : Int) (hv : v = if y = 0 then 0 else x / y) : ∃ l h : Int, InU l ∧ InU h ∧ l ≤ v ∧ v ≤ h ∧ (al = ah → bl = bh → y ≠ 0 → l = h) ∧ ∀ w, Calls Tryz.prog 126 #[.agg #[.int .u64 al, .int .u64 ah], .agg #[.int .u64 bl, .int .u64 bh]] w fun e w' => e = .returned (.agg #[.int .u64 l, .int .u64 h]) ∧ Gr w w' := by
  have k := div_in i0 i1 i2 i3 n1 n2 n3 n4 v hv
  rw [Bool.and_eq_true, decide_eq_true_eq, decide_eq_true_eq] at k
  refine ⟨_, _, inU_eN inU1 (inU_eN inU0 (inU_div' i0 i3)), inU_eN inU0 (inU_eN i1 (inU_div' i1 i2)), k.1, k.2, ?_, fun w => div_any al ah bl bh i0 i1 i2 i3 w⟩
  intro e1 e2 hy
  subst e1
  subst e2
  have h1 : decide (al < al) = false := decide_eq_false (by omega)
  have h2 : decide (bl < bl) = false := decide_eq_false (by omega)
  have h3 : (decide (bl ≤ 0) && decide (0 ≤ bl)) = false := by
    rw [Bool.and_eq_false_iff, decide_eq_false_iff_not, decide_eq_false_iff_not]
    omega
  rw [h1, h2, h3]
  rfl
theorem wrap_u' {z : Int} (h : InU z) : IntKind.u64.wrap z = z := by
  unfold InU at h
  rw [IntKind.wrap_u64]
  omega
/-- A half's ends, if what was reckoned stays a half. -/
theorem e_half {al ah v z : Int} (i0 : InU al) (i1 : InU ah) (n1 : al ≤ v) (n2 : v ≤ ah) (hv : v % 4294967296 = z % 4294967296) : ∃ l h : Int, (0 ≤ l ∧ h ≤ 4294967295) ∧ l ≤ z % 4294967296 ∧ z % 4294967296 ≤ h ∧ ∀ w, Calls Tryz.prog 180 #[.agg #[.int .u64 al, .int .u64 ah]] w fun e w' => e = .returned (.agg #[.int .u64 l, .int .u64 h]) ∧ Gr w w' := by
  unfold InU at i0 i1
  have k := ifHalf_any al ah
  have hn : decide (ah < al) = false := decide_eq_false (by omega)
  cases hq : ((decide (0 ≤ al) && decide (al ≤ 4294967295)) && (decide (0 ≤ ah) && decide (ah ≤ 4294967295))) with
  | true =>
    rw [hn, hq] at k
    simp only [Bool.and_eq_true, decide_eq_true_eq] at hq
    exact ⟨al, ah, ⟨hq.1.1, hq.2.2⟩, by omega, by omega, k⟩
  | false =>
    rw [hn, hq] at k
    exact ⟨0, 4294967295, ⟨by omega, by omega⟩, by omega, by omega, k⟩
theorem sg_mod {v z : Int} (h0 : -2147483648 ≤ v) (h1 : v ≤ 2147483647) (hv : v % 4294967296 = z % 4294967296) : sg z = v := by
  unfold sg
  omega
theorem sg_lo (z : Int) : -2147483648 ≤ sg z ∧ sg z ≤ 2147483647 := by
  unfold sg
  omega
theorem e_shalf {al ah v z : Int} (n1 : al ≤ v) (n2 : v ≤ ah) (hv : v % 4294967296 = z % 4294967296) : ∃ l h : Int, (-2147483648 ≤ l ∧ h ≤ 2147483647) ∧ l ≤ sg z ∧ sg z ≤ h ∧ ∀ w, Calls Tryz.prog 181 #[.agg #[.int .i64 al, .int .i64 ah]] w fun e w' => e = .returned (.agg #[.int .i64 l, .int .i64 h]) ∧ Gr w w' := by
  have k := ifSHalf_any al ah
  have hs := sg_lo z
  cases hq : ((decide ((-2147483648) ≤ al) && decide (al ≤ 2147483647)) && (decide ((-2147483648) ≤ ah) && decide (ah ≤ 2147483647))) with
  | true =>
    rw [hq] at k
    simp only [Bool.and_eq_true, decide_eq_true_eq] at hq
    have e := sg_mod (v := v) (z := z) (by omega) (by omega) hv
    exact ⟨al, ah, ⟨hq.1.1, hq.2.2⟩, by omega, by omega, k⟩
  | false =>
    rw [hq] at k
    exact ⟨-2147483648, 2147483647, ⟨by omega, by omega⟩, hs.1, hs.2, k⟩
end Go.Proofs.YtekenpgagfmgkaaGreat
end
section
namespace Go.Proofs.YtekenpgagfmgkaaGreat
open Go.ChangeShapes Go.WideShapes Go.ChangeAt Go.RowKit
open Tn (iv)
set_option linter.unusedVariables false
set_option linter.unusedSimpArgs false

theorem and_n0' (x : BitVec 64) : x &&& ~~~0#64 = x := by
  ext i hi
  rw [BitVec.getElem_and, BitVec.getElem_not, BitVec.getElem_zero]
  simp
theorem t_of {v m z : BitVec 64} (o : Tn.Tn.Ok v m) (h : Tn.Tn.Has v m z) : z &&& ~~~m = v := by
  apply BitVec.eq_of_getLsbD_eq
  intro i hi
  rw [BitVec.getLsbD_and, BitVec.getLsbD_not]
  cases hm : m.getLsbD i with
  | true => rw [o i hi hm]; simp
  | false => rw [h i hi hm]; simp [hi]
theorem h_of {v m z : BitVec 64} (h : z &&& ~~~m = v) : Tn.Tn.Has v m z := by
  intro i hi hm
  rw [← h, BitVec.getLsbD_and, BitVec.getLsbD_not, hm]
  simp [hi]
theorem o_of {v m : BitVec 64} (h : v &&& m = 0#64) : Tn.Tn.Ok v m := by
  intro i hi hm
  have := congrArg (fun z => z.getLsbD i) h
  simp [hm] at this
  exact this
theorem Has.th {b : Bd} {x : BitVec 64} (k : Has b x) : Tn.Tn.Has b.tv b.tm x := h_of k.t
theorem Good.ok {b : Bd} (g : Good b) : Tn.Tn.Ok b.tv b.tm := o_of g.t
theorem Good.iu0 {b : Bd} (g : Good b) : InU b.ul := ⟨g.u0, Int.le_trans g.u1 g.u2⟩
theorem Good.iu1 {b : Bd} (g : Good b) : InU b.uh := ⟨Int.le_trans g.u0 g.u1, g.u2⟩
theorem Good.is0 {b : Bd} (g : Good b) : InS b.sl := ⟨g.s0, Int.le_trans g.s1 g.s2⟩
theorem Good.is1 {b : Bd} (g : Good b) : InS b.sh := ⟨Int.le_trans g.s0 g.s1, g.s2⟩
theorem Good.iw0 {b : Bd} (g : Good b) : InU b.wl := by have h1 := g.w0; have h2 := g.w1; have h3 := g.w2; unfold InU; omega
theorem Good.iw1 {b : Bd} (g : Good b) : InU b.wh := by have h1 := g.w0; have h2 := g.w1; have h3 := g.w2; unfold InU; omega
theorem Good.iv0 {b : Bd} (g : Good b) : InS b.vl := by have h1 := g.v0; have h2 := g.v1; have h3 := g.v2; unfold InS; omega
theorem Good.iv1 {b : Bd} (g : Good b) : InS b.vh := by have h1 := g.v0; have h2 := g.v1; have h3 := g.v2; unfold InS; omega

/-- A bound of which one number alone is known. -/
def Pt (b : Bd) : Prop := b.tm = 0#64 ∧ b.ul = b.uh
def Pin (b : Bd) : Prop := b.tm = 0#64 ∨ b.ul = b.uh
theorem pt_const (x : BitVec 64) : Pt (constM x) := ⟨rfl, rfl⟩
/-- A good bound, by what it has, and by its ends. -/
theorem good_by {b : Bd} {z : BitVec 64} (o : Tn.Tn.Ok b.tv b.tm) (k : Has b z) (u0 : 0 ≤ b.ul) (u2 : b.uh ≤ 18446744073709551615) (s0 : -9223372036854775808 ≤ b.sl) (s2 : b.sh ≤ 9223372036854775807) (w0 : 0 ≤ b.wl) (w2 : b.wh ≤ 4294967295) (v0 : -2147483648 ≤ b.vl) (v2 : b.vh ≤ 2147483647) : Good b :=
  ⟨Tn.Tn.ok_and o, u0, Int.le_trans k.u0 k.u1, u2, s0, Int.le_trans k.s0 k.s1, s2, w0, Int.le_trans k.w0 k.w1, w2, v0, Int.le_trans k.v0 k.v1, v2⟩
theorem good_le {b c : Bd} {z : BitVec 64} (g : Good b) (l : Le c b) (k : Has c z) : Good c := by
  refine ⟨?_, Int.le_trans g.u0 l.ul, Int.le_trans k.u0 k.u1, Int.le_trans l.uh g.u2, Int.le_trans g.s0 l.sl, Int.le_trans k.s0 k.s1, Int.le_trans l.sh g.s2, Int.le_trans g.w0 l.wl, Int.le_trans k.w0 k.w1, Int.le_trans l.wh g.w2, Int.le_trans g.v0 l.vl, Int.le_trans k.v0 k.v1, Int.le_trans l.vh g.v2⟩
  rw [← k.t]
  ext i hi
  simp [hi]
/-- One number alone, all five ways. -/
theorem const_of {c : Bd} {z : BitVec 64} (k : Has c z) (hm : c.tm = 0#64) (hu : iv z ≤ c.ul) (hu' : c.uh ≤ iv z) (hs : wrap64 (iv z) ≤ c.sl) (hs' : c.sh ≤ wrap64 (iv z)) (hw : iv z % 4294967296 ≤ c.wl) (hw' : c.wh ≤ iv z % 4294967296) (hv : sg (iv z) ≤ c.vl) (hv' : c.vh ≤ sg (iv z)) : c = constM z := by
  have ht := k.t
  have h1 := k.u0; have h2 := k.u1; have h3 := k.s0; have h4 := k.s1; have h5 := k.w0; have h6 := k.w1; have h7 := k.v0; have h8 := k.v1
  obtain ⟨tv, tm, ul, uh, sl, sh, wl, wh, vl, vh⟩ := c
  simp only at *
  subst hm
  have e0 : tv = z := by rw [← ht, and_n0']
  have e1 : ul = iv z := Int.le_antisymm h1 hu
  have e2 : uh = iv z := Int.le_antisymm hu' h2
  have e3 : sl = wrap64 (iv z) := Int.le_antisymm h3 hs
  have e4 : sh = wrap64 (iv z) := Int.le_antisymm hs' h4
  have e5 : wl = iv z % 4294967296 := Int.le_antisymm h5 hw
  have e6 : wh = iv z % 4294967296 := Int.le_antisymm hw' h6
  have e7 : vl = sg (iv z) := Int.le_antisymm h7 hv
  have e8 : vh = sg (iv z) := Int.le_antisymm hv' h8
  rw [e0, e1, e2, e3, e4, e5, e6, e7, e8]
  rfl
theorem tm_le {a b : Bd} (l : Le a b) (h : b.tm = 0#64) : a.tm = 0#64 := by
  have := l.m
  rw [h, and_n0'] at this
  exact this
theorem tv_of {c : Bd} {z : BitVec 64} (k : Has c z) (hm : c.tm = 0#64) : c.tv = z := by
  rw [← k.t, hm, and_n0']

section
variable {b c : Bd} {z : BitVec 64}
theorem iv_or0 (x : BitVec 64) : x ||| 0#64 = x := by
  ext i hi
  simp
theorem and_z (x : BitVec 64) : 0#64 &&& x = 0#64 := by
  ext i hi
  simp
theorem lowT0 : lowT 0#64 = 0#64 := and_z _
/-- Of one number each step tells no more than that one, once the bits are known. -/
theorem pin1 (k : Has b z) (hm : b.tm = 0#64) (e : st1 b = some c) : iv z ≤ c.ul ∧ c.uh ≤ iv z := by
  have hv := tv_of k hm
  unfold st1 mU at e
  rw [hm, hv, iv_or0] at e
  split at e
  · cases e
  · cases e
    simp
    omega
theorem pin2 (k : Has b z) (hm : b.tm = 0#64) (e : st2 b = some c) : wrap64 (iv z) ≤ c.sl ∧ c.sh ≤ wrap64 (iv z) := by
  have hv := tv_of k hm
  unfold st2 mS at e
  rw [hm, hv, and_z, and_z, iv_or0] at e
  split at e
  · cases e
  · cases e
    simp
    omega
theorem pin6 (k : Has b z) (hm : b.tm = 0#64) (e : st6 b = some c) : iv z % 4294967296 ≤ c.wl ∧ c.wh ≤ iv z % 4294967296 := by
  have hv := tv_of k hm
  unfold st6 mW at e
  rw [hm, hv, lowT0, iv_or0, low_mod] at e
  split at e
  · cases e
  · cases e
    simp
    omega
theorem pin7 (k : Has b z) (hm : b.tm = 0#64) (e : st7 b = some c) : sg (iv z) ≤ c.vl ∧ c.vh ≤ sg (iv z) := by
  have hv := tv_of k hm
  unfold st7 mV at e
  rw [hm, hv, lowT0, and_z, and_z, iv_or0, sg_low] at e
  split at e
  · cases e
  · cases e
    simp
    omega
theorem rg_same (x : BitVec 64) : Tn.rgM x x = 0#64 := by
  unfold Tn.rgM
  rw [if_neg (by simp)]
  unfold Tn.rangeM
  rw [BitVec.xor_self]
  decide
theorem pin5 (g : Good b) (k : Has b z) (hu : b.ul = b.uh) (e : st5 b = some c) : c.tm = 0#64 := by
  unfold st5 mT at e
  split at e
  · cases e
    show b.tm &&& _ = 0#64
    rw [hu, rg_same]
    ext i hi
    simp
  · cases e
/-- A round, step by step, of a bound that has z. -/
theorem round_steps (g : Good b) (k : Has b z) : ∃ b1 b2 b3 b4 b5 b6 b7 b8 b9 b10 c, st1 b = some b1 ∧ st2 b1 = some b2 ∧ st3 b2 = some b3 ∧ st4 b3 = some b4 ∧ st5 b4 = some b5 ∧ st6 b5 = some b6 ∧ st7 b6 = some b7 ∧ st8 b7 = some b8 ∧ st9 b8 = some b9 ∧ st10 b9 = some b10 ∧ st11 b10 = some c ∧ roundM b = some c ∧ Has b1 z ∧ Has b4 z ∧ Has b5 z ∧ Has b6 z ∧ Has c z ∧ Good b4 ∧ Good c ∧ Le b1 b ∧ Le b2 b1 ∧ Le b4 b2 ∧ Le b5 b4 ∧ Le b6 b5 ∧ Le b7 b6 ∧ Le c b7 := by
  obtain ⟨b1, h1, k1⟩ := st1_keep g k
  have g1 := g.mU h1
  obtain ⟨b2, h2, k2⟩ := st2_keep g1 k1
  have g2 := g1.mS h2
  obtain ⟨b3, h3, k3⟩ := st3_keep g2 k2
  have g3 := g2.mS h3
  obtain ⟨b4, h4, k4⟩ := st4_keep g3 k3
  have g4 := g3.mU h4
  obtain ⟨b5, h5, k5⟩ := st5_keep g4 k4
  have g5 := g4.mT h5
  obtain ⟨b6, h6, k6⟩ := st6_keep g5 k5
  have g6 := g5.mW h6
  obtain ⟨b7, h7, k7⟩ := st7_keep g6 k6
  have g7 := g6.mV h7
  obtain ⟨b8, h8, k8⟩ := st8_keep g7 k7
  have g8 := g7.mV h8
  obtain ⟨b9, h9, k9⟩ := st9_keep g8 k8
  have g9 := g8.mW h9
  obtain ⟨b10, h10, k10⟩ := st10_keep g9 k9
  have g10 := g9.mT h10
  obtain ⟨c, h11, kc⟩ := st11_keep g10 k10
  refine ⟨b1, b2, b3, b4, b5, b6, b7, b8, b9, b10, c, h1, h2, h3, h4, h5, h6, h7, h8, h9, h10, h11, ?_, k1, k4, k5, k6, kc, g4, g10.st11 h11, mU_le g.t h1, mS_le g1.t h2, (mU_le g3.t h4).trans (mS_le g2.t h3), mT_le g4.t (rg_ok _ _) h5, mW_le g5.t h6, mV_le g6.t h7, (st11_le g10 h11).trans ((mT_le g9.t (rg_low_ok _ _) h10).trans ((mW_le g8.t h9).trans (mV_le g7.t h8)))⟩
  unfold roundM
  rw [h1, Option.bind_some, h2, Option.bind_some, h3, Option.bind_some, h4, Option.bind_some, h5, Option.bind_some, h6, Option.bind_some, h7, Option.bind_some, h8, Option.bind_some, h9, Option.bind_some, h10, Option.bind_some]
  exact h11
theorem round_pin (g : Good b) (k : Has b z) (hm : b.tm = 0#64) : roundM b = some (constM z) := by
  obtain ⟨b1, b2, b3, b4, b5, b6, b7, b8, b9, b10, c, h1, h2, h3, h4, h5, h6, h7, h8, h9, h10, h11, hr, k1, k4, k5, k6, kc, g4, gc, l1, l2, l4, l5, l6, l7, lc⟩ := round_steps g k
  have m1 := tm_le l1 hm
  have m4 := tm_le (l4.trans l2) m1
  have m5 := tm_le l5 m4
  have m6 := tm_le l6 m5
  have p1 := pin1 k hm h1
  have p2 := pin2 k1 m1 h2
  have p6 := pin6 k5 m5 h6
  have p7 := pin7 k6 m6 h7
  have lc2 := ((lc.trans l7).trans l6).trans (l5.trans l4)
  have lc1 := lc2.trans l2
  have lc6 := lc.trans l7
  rw [hr, const_of kc (tm_le (lc.trans l7) m6) (Int.le_trans p1.1 lc1.ul) (Int.le_trans lc1.uh p1.2) (Int.le_trans p2.1 lc2.sl) (Int.le_trans lc2.sh p2.2) (Int.le_trans p6.1 lc6.wl) (Int.le_trans lc6.wh p6.2) (Int.le_trans p7.1 lc.vl) (Int.le_trans lc.vh p7.2)]
theorem good_const (z : BitVec 64) : Good (constM z) := by
  have hi := iv_range z
  have hs := sg_lo (iv z)
  have hw := inS_w (iv z)
  unfold InS at hw
  refine ⟨?_, hi.1, Int.le_refl _, hi.2, hw.1, Int.le_refl _, hw.2, ?_, Int.le_refl _, ?_, hs.1, Int.le_refl _, hs.2⟩
  · show z &&& 0#64 = 0#64
    ext i hi
    simp
  · show 0 ≤ iv z % 4294967296
    omega
  · show iv z % 4294967296 ≤ 4294967295
    omega
theorem has_const (z : BitVec 64) : Has (constM z) z := ⟨and_n0' z, Int.le_refl _, Int.le_refl _, Int.le_refl _, Int.le_refl _, Int.le_refl _, Int.le_refl _, Int.le_refl _, Int.le_refl _⟩
theorem round_pin' (g : Good b) (k : Has b z) (hu : b.ul = b.uh) : ∃ c, roundM b = some c ∧ Good c ∧ Has c z ∧ c.tm = 0#64 := by
  obtain ⟨b1, b2, b3, b4, b5, b6, b7, b8, b9, b10, c, h1, h2, h3, h4, h5, h6, h7, h8, h9, h10, h11, hr, k1, k4, k5, k6, kc, g4, gc, l1, l2, l4, l5, l6, l7, lc⟩ := round_steps g k
  have hl := (l4.trans l2).trans l1
  have e4 : b4.ul = b4.uh := by
    have := hl.ul; have := hl.uh; have := k4.u0; have := k4.u1; have := k.u0; have := k.u1
    omega
  exact ⟨c, hr, gc, kc, tm_le ((lc.trans l7).trans l6) (pin5 g4 k4 e4 h5)⟩
/-- What follows of one number alone is that number. -/
theorem sync_pin (g : Good b) (k : Has b z) (hp : Pin b) : syncM b = constM z := by
  have hb : badM b = false := by
    unfold badM nnB inR
    simp only [decide_eq_false (show ¬ b.uh < b.ul by have := g.u1; omega), decide_eq_false (show ¬ b.wh < b.wl by have := g.w1; omega), decide_eq_false (show ¬ b.sh < b.sl by have := g.s1; omega), decide_eq_false (show ¬ b.vh < b.vl by have := g.v1; omega), g.t, decide_eq_true (show 0 ≤ b.wl from g.w0), decide_eq_true (show b.wl ≤ 4294967295 by have := g.w1; have := g.w2; omega), decide_eq_true (show 0 ≤ b.wh by have := g.w1; have := g.w0; omega), decide_eq_true (show b.wh ≤ 4294967295 from g.w2), decide_eq_true (show -2147483648 ≤ b.vl from g.v0), decide_eq_true (show b.vl ≤ 2147483647 by have := g.v1; have := g.v2; omega), decide_eq_true (show -2147483648 ≤ b.vh by have := g.v1; have := g.v0; omega), decide_eq_true (show b.vh ≤ 2147483647 from g.v2)]
    rfl
  have rc := round_pin (good_const z) (has_const z) rfl
  unfold syncM
  rw [hb]
  rcases hp with hm | hu
  · rw [round_pin g k hm, Option.bind_some, rc, Option.bind_some, rc]
    rfl
  · obtain ⟨c, hr, gc, kc, hm⟩ := round_pin' g k hu
    rw [hr, Option.bind_some, round_pin gc kc hm, Option.bind_some, rc]
    rfl
end
/-- What function f makes of a and b: a bound of which z is a number; of x alone and y alone, z alone (if p). -/
def Deed (f : FuncId) (a b : Bd) (x y z : BitVec 64) (p : Prop) : Prop :=
  ∃ c : Bd, Good c ∧ Has c z ∧ (p → a = constM x → b = constM y → c = constM z) ∧ ∀ w, Calls Tryz.prog f #[.agg (bv a), .agg (bv b)] w fun e w' => e = .returned (.agg (bv c)) ∧ Gr w w'
theorem deed_of {f : FuncId} {a b r : Bd} {x y z : BitVec 64} {p : Prop} (g : Good r) (k : Has r z) (hp : p → a = constM x → b = constM y → Pin r) (hc : ∀ w, Calls Tryz.prog f #[.agg (bv a), .agg (bv b)] w fun e w' => e = .returned (.agg (bv (syncM r))) ∧ Gr w w') : Deed f a b x y z p := by
  have h := sync_keep g k
  exact ⟨syncM r, h.2.2, h.1, fun q ea eb => sync_pin g k (hp q ea eb), hc⟩
theorem has_any (z : BitVec 64) : Has anyM z := by
  have hi := iv_range z
  have hs := sg_lo (iv z)
  have hw := inS_w (iv z)
  unfold InS at hw
  refine ⟨?_, hi.1, hi.2, hw.1, hw.2, ?_, ?_, hs.1, hs.2⟩
  · show z &&& ~~~18446744073709551615#64 = 0#64
    have : ~~~18446744073709551615#64 = 0#64 := by decide
    rw [this]
    ext i hi
    simp
  · show 0 ≤ iv z % 4294967296
    omega
  · show iv z % 4294967296 ≤ 4294967295
    omega
theorem good_any : Good anyM := by
  refine ⟨?_, ?_, ?_, ?_, ?_, ?_, ?_, ?_, ?_, ?_, ?_, ?_, ?_⟩ <;> (simp [anyM])
end Go.Proofs.YtekenpgagfmgkaaGreat
end
