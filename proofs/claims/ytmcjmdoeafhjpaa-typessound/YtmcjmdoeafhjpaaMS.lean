/- Towards the statements of package types (layer 10): what holds of a table that may be. -/
import Derived.Test.YtmcjmdoeafhjpaaRC
namespace Go.Proofs.Ytmcjmdoeafhjpaa
set_option linter.unusedVariables false
set_option linter.unusedSimpArgs false
set_option maxRecDepth 20000
theorem badT_none {L : List Ty} : ∀ (i : Nat) (r : List Ty), badT L i r = none → ∀ j t, r[j]? = some t → (typeM L (i + j) t).2 = 0
  | i, [], _, j, t, h => by simp at h
  | i, u :: r, h, 0, t, ht => by
    rw [badT] at h
    split at h
    · cases h
    · rename_i hz
      simp at ht
      subst ht
      simpa using hz
  | i, u :: r, h, j + 1, t, ht => by
    rw [badT] at h
    split at h
    · cases h
    · have := badT_none (i + 1) r h j t (by simpa using ht)
      rwa [show i + 1 + j = i + (j + 1) by omega] at this
theorem badG_none {L : List Ty} : ∀ (k : Nat) (r : List Fd), badG L k r = none → ∀ x ∈ r, holdM L x = true
  | k, [], _, x, h => by simp at h
  | k, y :: r, h, x, hx => by
    rw [badG] at h
    split at h
    · rename_i hy
      rcases List.mem_cons.1 hx with rfl | hx
      · exact hy
      · exact badG_none (k + 1) r h x hx
    · cases h
theorem badH_none {L : List Ty} : ∀ (i : Nat) (r : List Ty), badH L i r = none → ∀ t ∈ r, ∀ x ∈ t.fs, holdM L x = true
  | i, [], _, t, h, _, _ => by simp at h
  | i, u :: r, h, t, ht, x, hx => by
    rw [badH] at h
    split at h
    · cases h
    · rename_i hg
      rcases List.mem_cons.1 ht with rfl | ht
      · exact badG_none 0 _ hg x hx
      · exact badH_none (i + 1) r h t ht x hx
theorem badF_none {s : Int} {fs : List Fd} : ∀ (k : Nat) (r : List Fd), badF s fs k r = none → ∀ j x, r[j]? = some x → fieldX s (fs.take (k + j)) x = 0
  | k, [], _, j, x, h => by simp at h
  | k, y :: r, h, 0, x, hx => by
    rw [badF] at h
    split at h
    · cases h
    · rename_i hz
      simp at hx
      subst hx
      simpa using hz
  | k, y :: r, h, j + 1, x, hx => by
    rw [badF] at h
    split at h
    · cases h
    · have := badF_none (k + 1) r h j x (by simpa using hx)
      rwa [show k + 1 + j = k + (j + 1) by omega] at this
/-- What is so of the type at i of a table that may be. -/
structure May10 (L : List Ty) (i : Nat) (t : Ty) : Prop where
  i32 : i < 32
  name : mayM (bt t.n) = true
  once : (L.take i).any (fun u => u.n.toList == t.n.toList) = false
  size : 8 ≤ t.s ∧ t.s ≤ 128 ∧ t.s.tmod 8 = 0
  len : t.fs.length ≤ 8
  flds : ∀ j x, t.fs[j]? = some x → fieldX t.s (t.fs.take j) x = 0
  mix : mixM t.fs = false
theorem type_may {L : List Ty} {i : Nat} {t : Ty} (h : (typeM L i t).2 = 0) : May10 L i t := by
  have hst : structM L i t = (0, 0) := by
    unfold typeM at h
    split at h
    · rename_i hz; exact absurd h hz
    · rename_i hz
      have hz' : (structM L i t).2 = 0 := by simpa using hz
      unfold structM at hz' ⊢
      split at hz'
      · simp at hz'
      split at hz'
      · simp at hz'
      split at hz'
      · simp at hz'
      split at hz'
      · simp at hz'
      split at hz'
      · simp at hz'
      rename_i a1 a2 a3 a4 a5
      rw [if_neg a1, if_neg a2, if_neg a3, if_neg a4, if_neg a5]
  have h2 : (match badF t.s t.fs 0 t.fs with | some r => r | none => if mixM t.fs = true then ((0 : Int), (106 : Int)) else (0, 0)).2 = 0 := by
    unfold typeM at h
    rw [hst, if_neg (by simp)] at h
    cases hb : badF t.s t.fs 0 t.fs <;> (rw [hb] at h; exact h)
  have hb : badF t.s t.fs 0 t.fs = none ∧ mixM t.fs = false := by
    cases hbf : badF t.s t.fs 0 t.fs with
    | some r =>
      exfalso
      rw [hbf] at h2
      dsimp only at h2
      have : ∀ (k : Nat) (l : List Fd) (r : Int × Int), badF t.s t.fs k l = some r → r.2 ≠ 0 := by
        intro k l
        induction l generalizing k with
        | nil => intro r h; rw [badF] at h; cases h
        | cons y l ih =>
          intro r h
          rw [badF] at h
          split at h
          · rename_i hz; injection h with h; subst h; exact hz
          · exact ih (k + 1) r h
      exact this _ _ _ hbf h2
    | none =>
      rw [hbf] at h2
      dsimp only at h2
      refine ⟨rfl, ?_⟩
      cases hm : mixM t.fs with
      | false => rfl
      | true => rw [hm] at h2; simp at h2
  unfold structM at hst
  split at hst
  · simp at hst
  rename_i a1
  split at hst
  · simp at hst
  rename_i a2
  split at hst
  · simp at hst
  rename_i a3
  split at hst
  · simp at hst
  rename_i a4
  split at hst
  · simp at hst
  rename_i a5
  refine ⟨by omega, by simpa using a2, by simpa using a3, ⟨by omega, by omega, ?_⟩, by omega, fun j x hx => ?_, hb.2⟩
  · by_cases h8 : t.s.tmod 8 = 0
    · exact h8
    · exact absurd (.inr (.inr h8)) a4
  · have := badF_none 0 t.fs hb.1 j x hx
    rwa [Nat.zero_add] at this
theorem chk_may {L : List Ty} (h : (chkM L).2.2 = 0) : (∀ i t, L[i]? = some t → May10 L i t) ∧ ∀ t ∈ L, ∀ x ∈ t.fs, holdM L x = true := by
  have hT : badT L 0 L = none := by
    cases hb : badT L 0 L with
    | none => rfl
    | some r =>
      exfalso
      rw [chkM, hb] at h
      dsimp only at h
      have : ∀ (i : Nat) (l : List Ty) (r : Int × Int × Int), badT L i l = some r → r.2.2 ≠ 0 := by
        intro i l
        induction l generalizing i with
        | nil => intro r h; rw [badT] at h; cases h
        | cons y l ih =>
          intro r h
          rw [badT] at h
          split at h
          · rename_i hz; injection h with h; subst h; exact hz
          · exact ih (i + 1) r h
      exact this _ _ _ hb h
  have hH : badH L 0 L = none := by
    cases hb : badH L 0 L with
    | none => rfl
    | some r =>
      exfalso
      rw [chkM, hT, hb] at h
      dsimp only at h
      have : ∀ (i : Nat) (l : List Ty) (r : Int × Int × Int), badH L i l = some r → r.2.2 ≠ 0 := by
        intro i l
        induction l generalizing i with
        | nil => intro r h; rw [badH] at h; cases h
        | cons y l ih =>
          intro r h
          rw [badH] at h
          split at h
          · injection h with h; subst h; simp
          · exact ih (i + 1) r h
      exact this _ _ _ hb h
  refine ⟨fun i t ht => type_may ?_, fun t ht x hx => badH_none 0 L hH t ht x hx⟩
  have := badT_none 0 L hT i t ht
  rwa [Nat.zero_add] at this
end Go.Proofs.Ytmcjmdoeafhjpaa
