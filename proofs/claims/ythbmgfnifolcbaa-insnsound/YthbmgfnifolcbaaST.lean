/- Towards the statements InsnSound and InsnStrict: what follows of an instruction's kind. -/
import Derived.Test.YthbmgfnifolcbaaIN
namespace Go.Proofs.Ythbmgfnifolcbaa
set_option linter.unusedVariables false
set_option linter.unusedSimpArgs false

theorem kV_pos {o d s f i k : Int} (hk : kV o d s f i = k) (h : k ≠ 0) : d < 11 ∧ s < 11 ∧ nmV o s = k ∧ mayB k d = true ∧ zB k o d s f i = true := by
  unfold kV at hk
  split at hk
  · rename_i hr
    unfold kIf at hk
    split at hk
    · rename_i hb
      subst hk
      rw [Bool.and_eq_true] at hb
      exact ⟨hr.1, hr.2, rfl, hb.1, hb.2⟩
    · exact absurd hk.symm h
  · exact absurd hk.symm h
theorem kV_at {o d s f i k : Int} (h : k ≠ 0) (hd : d < 11) (hs : s < 11) (hn : nmV o s = k) (hm : mayB k d = true) : (kV o d s f i == k) = zB k o d s f i := by
  rw [kV, if_pos ⟨hd, hs⟩, hn, hm, Bool.true_and, kIf]
  cases zB k o d s f i with
  | true => simp
  | false => simp; omega
theorem kV_far {o d s f i k : Int} (h : k ≠ 0) (hs : ¬ s < 11) : (kV o d s f i == k) = false := by
  rw [kV, if_neg (fun e => hs e.2)]; simp; omega
theorem kV_else {o d s f i k : Int} (h : k ≠ 0) (hn : nmV o s ≠ k) : (kV o d s f i == k) = false := by
  rw [beq_eq_false_iff_ne]
  intro e
  exact hn (kV_pos e h).2.2.1
def Q (k o s : Int) : Prop :=
  (k = 1 → (o % 8 = 4 ∨ o % 8 = 7) ∧ reckV o = 1) ∧ (k = 2 → o % 8 = 1 ∧ o / 32 = 3) ∧ (k = 3 → o % 8 = 2 ∧ o / 32 = 3) ∧ (k = 4 → o % 8 = 3 ∧ o / 32 = 3) ∧ (k = 5 → (o % 8 = 5 ∨ o % 8 = 6) ∧ askB (o / 16) = true) ∧
  (k = 6 → o % 8 = 5 ∧ askB (o / 16) = false ∧ xB o = false ∧ o / 16 = 8 ∧ s = 0) ∧ (k = 7 → o % 8 = 5 ∧ askB (o / 16) = false ∧ xB o = false ∧ o / 16 = 8 ∧ s = 1) ∧ (k = 8 → o % 8 = 5 ∧ askB (o / 16) = false ∧ xB o = false ∧ o / 16 = 9) ∧
  (k = 10 → o % 8 = 5 ∧ askB (o / 16) = false ∧ xB o = false ∧ o / 16 = 0) ∧ (k = 9 → o = 24 ∧ s ≤ 2)
theorem nm_inv {o s k : Int} (h : nmV o s = k) : Q k o s := by
  subst h
  unfold nmV
  split
  · split <;> simp [Q, *]
  split
  · split <;> simp [Q, *]
  split
  · split <;> simp [Q, *]
  split
  · split <;> simp [Q, *]
  split
  · rename_i hc
    unfold reckV
    split
    · rename_i hr; simp [Q, reckV, hr, hc]
    · simp [Q]
  split
  · split
    · simp [Q, *]
    · unfold noAskV callV
      repeat' split
      all_goals simp [Q, *]
      all_goals simp_all
  split
  · split <;> simp [Q, *]
  · simp [Q]
end Go.Proofs.Ythbmgfnifolcbaa
