/- Towards the statements of package code (layer 8): the mathematics of reached: marking, one behind the other, what ways lead to. -/
import Derived.Test.YtdmdmbcapjmnlabCM
namespace Go.Proofs.Ytdmdmbcapjmnlab
set_option linter.unusedVariables false
set_option linter.unusedSimpArgs false

/-- Is it marked? -/
abbrev isOn (ld : List Bool) (j : Nat) : Prop := ld[j]?.getD false = true
/-- One thing that something leads to. -/
def stepL (s : List Bool × List Nat) (t : Nat) : List Bool × List Nat := if s.1[t]?.getD false = true then s else (s.1.set t true, s.2 ++ [t])
def foldS (s : List Bool × List Nat) (ts : List Nat) : List Bool × List Nat := ts.foldl stepL s
theorem foldS_cons (s : List Bool × List Nat) (t : Nat) (r : List Nat) : foldS s (t :: r) = foldS (stepL s t) r := rfl
theorem foldS_snoc (s : List Bool × List Nat) (ts : List Nat) (t : Nat) : foldS s (ts ++ [t]) = stepL (foldS s ts) t := by simp [foldS]
theorem stepL_len (s : List Bool × List Nat) (t : Nat) : (stepL s t).1.length = s.1.length := by unfold stepL; split <;> simp
theorem foldS_len (s : List Bool × List Nat) (ts : List Nat) : (foldS s ts).1.length = s.1.length := by
  induction ts generalizing s with
  | nil => rfl
  | cons t r ih => rw [foldS_cons, ih, stepL_len]
theorem on_set {ld : List Bool} {t j : Nat} : isOn (ld.set t true) j ↔ (j = t ∧ t < ld.length) ∨ isOn ld j := by
  unfold isOn
  rw [List.getElem?_set]
  by_cases h : t = j
  · subst h
    by_cases hl : t < ld.length
    · simp [hl]
    · simp [hl]
  · simp [h, Ne.symm h]
theorem stepL_on (s : List Bool × List Nat) (t j : Nat) : isOn (stepL s t).1 j ↔ isOn s.1 j ∨ (j = t ∧ t < s.1.length) := by
  unfold stepL; split
  · rename_i h
    constructor
    · exact .inl
    · rintro (h' | ⟨rfl, _⟩)
      · exact h'
      · exact h
  · rw [on_set]; exact or_comm
theorem foldS_on (s : List Bool × List Nat) (ts : List Nat) (j : Nat) : isOn (foldS s ts).1 j ↔ isOn s.1 j ∨ (j ∈ ts ∧ j < s.1.length) := by
  induction ts generalizing s with
  | nil => simp [foldS]
  | cons t r ih =>
    rw [foldS_cons, ih, stepL_on, stepL_len]
    simp only [List.mem_cons]
    constructor
    · rintro ((h | ⟨rfl, h⟩) | ⟨h, h2⟩)
      · exact .inl h
      · exact .inr ⟨.inl rfl, h⟩
      · exact .inr ⟨.inr h, h2⟩
    · rintro (h | ⟨rfl | h, h2⟩)
      · exact .inl (.inl h)
      · exact .inl (.inr ⟨rfl, h2⟩)
      · exact .inr ⟨h, h2⟩
theorem stepL_op (s : List Bool × List Nat) (t u : Nat) : u ∈ (stepL s t).2 ↔ u ∈ s.2 ∨ (u = t ∧ ¬ isOn s.1 t) := by
  unfold stepL; split
  · rename_i h
    simp [h]
  · rename_i h
    simp [h]
theorem foldS_op (s : List Bool × List Nat) (ts : List Nat) (u : Nat) : (u ∈ s.2 → u ∈ (foldS s ts).2) ∧ (u ∈ (foldS s ts).2 → u ∈ s.2 ∨ u ∈ ts) ∧ (isOn (foldS s ts).1 u → isOn s.1 u ∨ u ∈ (foldS s ts).2) := by
  induction ts generalizing s with
  | nil => exact ⟨fun h => h, .inl, .inl⟩
  | cons t r ih =>
    rw [foldS_cons]
    obtain ⟨h1, h2, h3⟩ := ih (stepL s t)
    refine ⟨fun h => h1 ((stepL_op _ _ _).2 (.inl h)), fun h => ?_, fun h => ?_⟩
    · rcases h2 h with h | h
      · rcases (stepL_op _ _ _).1 h with h | ⟨rfl, _⟩
        · exact .inl h
        · exact .inr (by simp)
      · exact .inr (by simp [h])
    · rcases h3 h with h | h
      · rcases (stepL_on _ _ _).1 h with h | ⟨rfl, hl⟩
        · exact .inl h
        · by_cases ho : isOn s.1 u
          · exact .inl ho
          · exact .inr (h1 ((stepL_op _ _ _).2 (.inr ⟨rfl, ho⟩)))
      · exact .inr h
def unled (ld : List Bool) : Nat := (ld.filter (!·)).length
theorem unled_set {ld : List Bool} {t : Nat} (ht : t < ld.length) (h : ¬ isOn ld t) : unled (ld.set t true) + 1 = unled ld := by
  unfold unled isOn at *
  induction ld generalizing t with
  | nil => simp at ht
  | cons b r ih =>
    cases t with
    | zero => simp at h; subst h; simp
    | succ t =>
      have := ih (t := t) (by simpa using ht) (by simpa using h)
      cases b <;> simp <;> omega
theorem foldS_mu (s : List Bool × List Nat) (ts : List Nat) (hts : ∀ t ∈ ts, t < s.1.length) : 2 * unled (foldS s ts).1 + (foldS s ts).2.length ≤ 2 * unled s.1 + s.2.length := by
  induction ts generalizing s with
  | nil => exact Nat.le_refl _
  | cons t r ih =>
    rw [foldS_cons]
    refine Nat.le_trans (ih _ (by rw [stepL_len]; exact fun x hx => hts x (by simp [hx]))) ?_
    unfold stepL; split
    · exact Nat.le_refl _
    · rename_i h
      have := unled_set (hts t (by simp)) h
      simp; omega
/-- What a way of one step at least leads to. -/
inductive Rch (succ : Nat → List Nat) (fs : List Nat) : Nat → Prop where
  | one (s t : Nat) : s ∈ fs → t ∈ succ s → Rch succ fs t
  | more (u t : Nat) : Rch succ fs u → t ∈ succ u → Rch succ fs t
structure MI (succ : Nat → List Nat) (fs : List Nat) (ld : List Bool) (op : List Nat) : Prop where
  sound : ∀ j, isOn ld j → Rch succ fs j
  shut : ∀ u, (u ∈ fs ∨ isOn ld u) → u ∈ op ∨ ∀ t ∈ succ u, isOn ld t
  opn : ∀ u ∈ op, u ∈ fs ∨ isOn ld u
theorem MI.start (succ : Nat → List Nat) (fs : List Nat) (n : Nat) : MI succ fs (List.replicate n false) fs := by
  have h0 : ∀ j, ¬ isOn (List.replicate n false) j := fun j => by unfold isOn; rw [List.getElem?_replicate]; split <;> simp
  exact ⟨fun j h => absurd h (h0 j), fun u h => h.elim .inl fun h => absurd h (h0 u), fun u h => .inl h⟩
theorem MI.step {succ : Nat → List Nat} {fs : List Nat} {ld : List Bool} {op : List Nat} {u : Nat} (h : MI succ fs ld (op ++ [u])) (hs : ∀ t ∈ succ u, t < ld.length) : MI succ fs (foldS (ld, op) (succ u)).1 (foldS (ld, op) (succ u)).2 := by
  have hu : Rch succ fs u ∨ u ∈ fs := (h.opn u (by simp)).elim .inr fun h' => .inl (h.sound u h')
  have hon := foldS_on (ld, op) (succ u)
  have hop := fun v => foldS_op (ld, op) (succ u) v
  refine ⟨fun j hj => ?_, fun v hv => ?_, fun v hv => ?_⟩
  · rcases (hon j).1 hj with h' | ⟨h', _⟩
    · exact h.sound j h'
    · rcases hu with hu | hu
      · exact .more u j hu h'
      · exact .one u j hu h'
  · by_cases e : v = u
    · subst e; exact .inr fun t ht => (hon t).2 (.inr ⟨ht, hs t ht⟩)
    · have hv' : (v ∈ fs ∨ isOn ld v) ∨ v ∈ (foldS (ld, op) (succ u)).2 := by
        rcases hv with hv | hv
        · exact .inl (.inl hv)
        · rcases (hop v).2.2 hv with h' | h'
          · exact .inl (.inr h')
          · exact .inr h'
      rcases hv' with hv' | hv'
      · rcases h.shut v hv' with h' | h'
        · simp [e] at h'
          exact .inl ((hop v).1 h')
        · exact .inr fun t ht => (hon t).2 (.inl (h' t ht))
      · exact .inl hv'
  · rcases (hop v).2.1 hv with h' | h'
    · rcases h.opn v (by simp; exact .inl h') with h'' | h''
      · exact .inl h''
      · exact .inr ((hon v).2 (.inl h''))
    · exact .inr ((hon v).2 (.inr ⟨h', hs v h'⟩))
theorem MI.done {succ : Nat → List Nat} {fs : List Nat} {ld : List Bool} (h : MI succ fs ld []) (j : Nat) : isOn ld j ↔ Rch succ fs j := by
  refine ⟨h.sound j, fun hr => ?_⟩
  induction hr with
  | one s t hs ht => rcases h.shut s (.inl hs) with h' | h'
                     · cases h'
                     · exact h' t ht
  | more u t _ ht ih => rcases h.shut u (.inr ih) with h' | h'
                        · cases h'
                        · exact h' t ht
end Go.Proofs.Ytdmdmbcapjmnlab
