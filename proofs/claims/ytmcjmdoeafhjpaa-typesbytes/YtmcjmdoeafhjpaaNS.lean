/- Towards the statements of package name (layer 9): isValid, Compare, May. -/
import Derived.Test.YtmcjmdoeafhjpaaNR
namespace Go.Proofs.Ytmcjmdoeafhjpaa
open Go.ChangeShapes Go.WideShapes Go.ChangeAt Go.RowKit
set_option linter.unusedVariables false
set_option linter.unusedSimpArgs false
set_option maxRecDepth 20000
theorem runM_ge (l : List Nat) : decide (0 ≤ runM l) = (ch l).isSome := by
  unfold runM
  cases ch l <;> simp
theorem Txt.step {l : List Nat} {D} (h : Txt l D) (hl : l ≠ []) : ∃ D', D = ((dec l).1, l.take (dec l).2) :: D' ∧ Txt (l.drop (dec l).2) D' ∧ ok l = true := by
  cases h with
  | nil => exact absurd rfl hl
  | cons p l r D hr hD =>
    have hr' := hr.app l
    rw [hr'.dec]
    exact ⟨D, by simp, by simpa using hD, hr'.ok⟩
theorem Txt.empty {D} (h : Txt [] D) : D = [] := by
  have := h.bytes
  cases D with
  | nil => rfl
  | cons c D =>
    have hr := h.runes c (by simp)
    simp at this
    exact absurd this.1 hr.ne
def goodP (C : List (Nat × List Nat)) : Bool := C.all (fun c => letterB c.1 || digitB c.1) && (C.isEmpty || letterB (C.headD (0, [])).1)
theorem may_good {C : List (Nat × List Nat)} (h : 1 ≤ C.length ∧ C.length ≤ 32) : mayC C = goodP C := by
  unfold mayC goodP
  cases C with
  | nil => simp at h
  | cons c C => rw [decide_eq_true h]; simp
theorem good_snoc (pre : List (Nat × List Nat)) (c : Nat × List Nat) (h : goodP pre = true) : goodP (pre ++ [c]) = (letterB c.1 || (digitB c.1 && !pre.isEmpty)) := by
  unfold goodP at *
  cases pre with
  | nil => cases h1 : letterB c.1 <;> simp [h1]
  | cons d t =>
    rw [Bool.and_eq_true] at h
    rw [List.all_append, h.1]
    simp only [List.cons_append, List.headD_cons, List.isEmpty_cons] at *
    simp at h
    simp [h.2]
theorem good_app {pre D : List (Nat × List Nat)} (h : goodP pre = false) : goodP (pre ++ D) = false := by
  unfold goodP at *
  cases pre with
  | nil => simp at h
  | cons d t =>
    rw [List.all_append]
    simp only [List.cons_append, List.headD_cons, List.isEmpty_cons, Bool.false_or] at *
    cases h1 : (d :: t).all (fun c => letterB c.1 || digitB c.1) with
    | false => simp
    | true => rw [h1] at h; simp at h; simp [h]
set_option maxHeartbeats 1000000 in
theorem may_any (s : ByteArray) (hs : s.size ≤ 4611686018427387904) (w : World) : Calls Try.prog 91 #[.string s] w fun e w' => e = .returned (.bool (mayM (bt s))) ∧ Bl w w' := by
  have hr := fun W => runes_any s hs W
  cases hc : ch (bt s) with
  | none =>
    have e1 : runM (bt s) = -1 := by rw [runM, hc]
    have e2 : mayM (bt s) = false := by rw [mayM, hc]
    rw [e1] at hr
    rw [e2]
    go_enter Try.func91, Try.ntmps91
    go_wp2_with (go_at_call 97; refine (hr _).mono ?_; rintro e w' ⟨rfl, hb⟩)
    go_returns
    exact ⟨rfl, hb⟩
  | some C =>
    have e1 : runM (bt s) = C.length := by rw [runM, hc]
    have e2 : mayM (bt s) = mayC C := by rw [mayM, hc]
    rw [e1] at hr
    rw [e2]
    have hT : Txt (bt s) C := (ch_iff (bt_lt s)).1 hc
    clear hc e1 e2
    by_cases h1 : C.length < 1
    · have d1 : decide ((C.length : Int) < 1) = true := by simp; omega
      have e3 : mayC C = false := by
        have : ¬ (1 ≤ C.length ∧ C.length ≤ 32) := by omega
        simp [mayC, this]
      rw [e3]
      go_enter Try.func91, Try.ntmps91
      go_wp2_with (go_at_call 97; refine (hr _).mono ?_; rintro e w' ⟨rfl, hb⟩)
      go_returns
      exact ⟨rfl, hb⟩
    have d1 : decide ((C.length : Int) < 1) = false := by simp; omega
    by_cases h2 : 32 < C.length
    · have d2 : decide ((32 : Int) < C.length) = true := by simp; omega
      have e3 : mayC C = false := by
        have : ¬ (1 ≤ C.length ∧ C.length ≤ 32) := by omega
        simp [mayC, this]
      rw [e3]
      go_enter Try.func91, Try.ntmps91
      go_wp2_with (go_at_call 97; refine (hr _).mono ?_; rintro e w' ⟨rfl, hb⟩)
      go_returns
      exact ⟨rfl, hb⟩
    have d2 : decide ((32 : Int) < C.length) = false := by simp; omega
    rw [may_good ⟨by omega, by omega⟩]
    go_enter Try.func91, Try.ntmps91
    go_wp2_with (go_at_call 97; refine (hr _).mono ?_; rintro e w1 ⟨rfl, hb1⟩)
    have hk0 : (w1.iter s 0).heap[w1.heap.size]? = some (.stringIter s 0) := w1.iter_heap s 0
    have hb0 : Bl w (w1.iter s 0) := hb1.alloc _
    have hkw : w.heap.size ≤ w1.heap.size := hb1.size
    generalize (w1.iter s 0) = W0 at hk0 hb0 ⊢
    generalize w1.heap.size = k at hk0 hkw ⊢
    clear hr
    go_loopw [4] (fun _ wr => ∃ (pos : Nat) (pre D : List (Nat × List Nat)), wr.heap[k]? = some (.stringIter s pos) ∧ pos ≤ s.size ∧ C = pre ++ D ∧ Txt ((bt s).drop pos) D ∧ goodP pre = true ∧ (pos = 0 ↔ pre = []) ∧ Bl w wr) (fun _ wr => s.size - itP wr k)
    case atStart => exact ⟨0, [], C, hk0, Nat.zero_le _, rfl, hT, rfl, by simp, hb0⟩
    case round =>
      obtain ⟨pos, pre, D, hk, hp1, hC, hD, hg, hz, hb⟩ := hrel
      by_cases hp : pos < s.size
      · have hnx := fun ty => next_on (P := Try.prog) hk hp ty
        obtain ⟨hw1, hw2⟩ := dec_width s hp
        obtain ⟨D', rfl, hD', ho⟩ := hD.step (bt_drop_ne hp)
        rw [List.drop_drop] at hD'
        have hk' := itS_heap hk s (pos + (dec ((bt s).drop pos)).2)
        have hb' := itS_below hb hkw s (pos + (dec ((bt s).drop pos)).2)
        generalize ((bt s).drop pos).take (dec ((bt s).drop pos)).2 = pc at hC hD
        generalize (dec ((bt s).drop pos)).1 = r at hnx hC hD
        generalize hP : pos + (dec ((bt s).drop pos)).2 = pos' at hk' hb' hnx hw2 hD'
        have hP' : pos < pos' := by omega
        generalize hW : itS (wr) k s pos' = W1 at hnx hk' hb'
        clear hW hP hw1 ho
        have hC2 : Hid (C = (pre ++ [(r, pc)]) ++ D') := (by rw [hC]; simp : C = (pre ++ [(r, pc)]) ++ D')
        have hgs := good_snoc pre (r, pc) hg
        dsimp only at hgs
        have hl := fun W => letter_any r W
        have hd := fun W => digit_any r W
        have hpz : ((pos : Int) == 0) = pre.isEmpty := by
          rw [Bool.eq_iff_iff, beq_iff_eq, List.isEmpty_iff, ← hz]; omega
        have hz' : pos' = 0 ↔ pre ++ [(r, pc)] = [] := by simp; omega
        clear hC hD hg hz
        generalize letterB (r : Int) = q1 at hl hgs
        generalize digitB (r : Int) = q2 at hd hgs
        generalize pre.isEmpty = q3 at hpz hgs
        have hmeas : s.size - itP W1 k < s.size - itP wr k := by rw [itP_eq hk, itP_eq hk']; omega
        cases q1 with
        | true =>
          go_wp2_with (first | (go_at_call 98; refine (hl _).mono ?_; rintro e w2 ⟨rfl, hb2⟩) | (go_at_call 99; refine (hd _).mono ?_; rintro e w3 ⟨rfl, rfl⟩))
          exact ⟨⟨pos', _, D', it_keep (w := w) hk' hb2, hw2, hC2.out, hD', by rw [hgs]; rfl, hz', hb'.trans hb2⟩, by rw [itP_eq hk, itP_eq (it_keep (w := w) hk' hb2)]; omega⟩
        | false =>
          cases q3 with
          | true =>
            go_wp2_with (first | (go_at_call 98; refine (hl _).mono ?_; rintro e w2 ⟨rfl, hb2⟩) | (go_at_call 99; refine (hd _).mono ?_; rintro e w3 ⟨rfl, rfl⟩))
            try rw [Exit.noGoto_ret]
            go_returns
            rw [hC2.out, good_app (by rw [hgs]; simp)]
            exact ⟨rfl, hb'.trans hb2⟩
          | false =>
            cases q2 with
            | true =>
              go_wp2_with (first | (go_at_call 98; refine (hl _).mono ?_; rintro e w2 ⟨rfl, hb2⟩) | (go_at_call 99; refine (hd _).mono ?_; rintro e w3 ⟨rfl, rfl⟩))
              exact ⟨⟨pos', _, D', it_keep (w := w) hk' hb2, hw2, hC2.out, hD', by rw [hgs]; rfl, hz', hb'.trans hb2⟩, by rw [itP_eq hk, itP_eq (it_keep (w := w) hk' hb2)]; omega⟩
            | false =>
              go_wp2_with (first | (go_at_call 98; refine (hl _).mono ?_; rintro e w2 ⟨rfl, hb2⟩) | (go_at_call 99; refine (hd _).mono ?_; rintro e w3 ⟨rfl, rfl⟩))
              try rw [Exit.noGoto_ret]
              go_returns
              rw [hC2.out, good_app (by rw [hgs]; simp)]
              exact ⟨rfl, hb'.trans hb2⟩
      · have hnx := fun ty => next_over (P := Try.prog) hk hp ty
        rw [List.drop_eq_nil_of_le (by rw [bt_len]; omega)] at hD
        obtain rfl := hD.empty
        rw [List.append_nil] at hC
        subst hC
        go_wp2
        go_returns
        rw [hg]
        exact ⟨rfl, hb⟩
end Go.Proofs.Ytmcjmdoeafhjpaa
