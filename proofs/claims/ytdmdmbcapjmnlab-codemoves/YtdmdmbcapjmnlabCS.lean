/- Towards the statements of package code (layer 8): what the checks make sure of, as mathematics: beginnings, heads, subprograms. -/
import Derived.Test.YtdmdmbcapjmnlabCR
namespace Go.Proofs.Ytdmdmbcapjmnlab
set_option linter.unusedVariables false
set_option linter.unusedSimpArgs false

theorem kV_zero (i : Int) : kV 0 0 0 0 i = 0 := by
  have : nmV 0 0 = 0 := by decide +kernel
  unfold kV
  rw [this]
  simp [kIf]
theorem secS_k {x : Sl} (h : secS x = true) : x.k = 0 := by
  unfold secS at h
  simp at h
  obtain ⟨h1, h2, h3, h4⟩ := h
  rw [Sl.k, h1, h2, h3, h4]
  exact kV_zero _
theorem getD_set {Bg : List Bool} {k j : Nat} : (Bg.set k true)[j]?.getD false = true ↔ (j = k ∧ k < Bg.length) ∨ Bg[j]?.getD false = true := on_set
theorem slotAt_nat {L : List Sl} {k : Nat} (h : k < L.length) : slotAt L (k : Int) = some L[k] := by simp [slotAt, h]
/-- What the walk has made sure of. -/
structure WalkOk (L : List Sl) (r : Nat × List Bool) : Prop where
  len : r.2.length = L.length
  beg : BegOk L r.2
  rest : L.length ≤ r.1 → ∀ j : Nat, j < L.length → r.2[j]?.getD false = false → kindM L j = 0
theorem walkF_ok (L : List Sl) : ∀ (f k : Nat) (Bg : List Bool), Bg.length = L.length → BegOk L Bg → (∀ j : Nat, j < k → Bg[j]?.getD false = false → kindM L j = 0) → WalkOk L (walkF L f k Bg)
  | 0, k, Bg, h1, h2, h3 => ⟨h1, h2, fun h j hj => h3 j (by simp [walkF] at h; omega)⟩
  | f + 1, k, Bg, h1, h2, h3 => by
    rw [walkF]
    by_cases hk : k < L.length
    · rw [if_pos hk]
      have hs := slotAt_nat hk
      by_cases h0 : kindM L k = 0
      · rw [if_pos h0]
        exact ⟨h1, h2, fun h => by simp at h; omega⟩
      · rw [if_neg h0]
        by_cases h9 : kindM L k = 9
        · rw [if_pos h9]
          cases hsec : secB L ((k : Int) + 1) with
          | false => exact ⟨h1, h2, fun h => by simp at h; omega⟩
          | true =>
            rw [if_pos rfl]
            obtain ⟨y, hy, hys⟩ : ∃ y, slotAt L ((k : Int) + 1) = some y ∧ secS y = true := by
              unfold secB at hsec
              cases e : slotAt L ((k : Int) + 1) with
              | none => rw [e] at hsec; cases hsec
              | some y => rw [e] at hsec; exact ⟨y, rfl, hsec⟩
            refine walkF_ok L f (k + 2) _ (by simpa using h1) ?_ ?_
            · intro j hj
              rcases getD_set.1 hj with ⟨rfl, _⟩ | hj
              · exact ⟨_, hs, fun _ => ⟨y, hy⟩⟩
              · exact h2 j hj
            · intro j hj hf
              have hjk : j ≠ k := fun e => by
                have := getD_set.2 (.inl ⟨e, by omega⟩ : (j = k ∧ k < Bg.length) ∨ Bg[j]?.getD false = true)
                rw [hf] at this; cases this
              by_cases hlt : j < k
              · exact h3 j hlt (by cases e : Bg[j]?.getD false with
                  | false => rfl
                  | true => rw [getD_set.2 (.inr e)] at hf; cases hf)
              · have : (j : Int) = (k : Int) + 1 := by omega
                rw [kindM, this, hy]
                exact secS_k hys
        · rw [if_neg h9]
          refine walkF_ok L f (k + 1) _ (by simpa using h1) ?_ ?_
          · intro j hj
            rcases getD_set.1 hj with ⟨rfl, _⟩ | hj
            · exact ⟨_, hs, fun h => absurd (by rw [kindM, hs]; exact h) h9⟩
            · exact h2 j hj
          · intro j hj hf
            have hjk : j ≠ k := fun e => by
              have := getD_set.2 (.inl ⟨e, by omega⟩ : (j = k ∧ k < Bg.length) ∨ Bg[j]?.getD false = true)
              rw [hf] at this; cases this
            exact h3 j (by omega) (by cases e : Bg[j]?.getD false with
                  | false => rfl
                  | true => rw [getD_set.2 (.inr e)] at hf; cases hf)
    · rw [if_neg hk]
      exact ⟨h1, h2, fun _ j hj => h3 j (by omega)⟩
theorem walkM_ok (L : List Sl) : WalkOk L (walkM L) := walkF_ok L _ _ _ (by simp) (fun j hj => by
  by_cases h : j < L.length
  · simp [h] at hj
  · simp [h] at hj) (fun j hj => by omega)

/-- The row without repetitions, of a row that rises. -/
theorem compactUp_ok (d : Array Int) (hd : ∀ i j, i ≤ j → j < d.size → d[i]! ≤ d[j]!) : ∀ m, m ≤ d.size → (Lib.compactUpTo d m).Pairwise (· < ·) ∧ (∀ x ∈ Lib.compactUpTo d m, ∃ j, j < m ∧ d[j]! = x) ∧ (∀ j, j < m → d[j]! ∈ Lib.compactUpTo d m)
  | 0, _ => ⟨by simp [Lib.compactUpTo], by simp [Lib.compactUpTo], fun j h => by omega⟩
  | m + 1, hm => by
    obtain ⟨h1, h2, h3⟩ := compactUp_ok d hd m (by omega)
    rw [Lib.compactUpTo_succ]
    by_cases hk : Lib.keeps d m = true
    · rw [if_pos hk]
      refine ⟨List.pairwise_append.2 ⟨h1, by simp, ?_⟩, ?_, ?_⟩
      · intro x hx y hy
        simp at hy
        subst hy
        obtain ⟨j, hj, rfl⟩ := h2 x hx
        have hne : d[m - 1]! ≠ d[m]! := by
          unfold Lib.keeps at hk
          simp at hk
          rcases hk with hk | hk
          · omega
          · exact fun e => hk e.symm
        have := hd j (m - 1) (by omega) (by omega)
        have := hd (m - 1) m (by omega) (by omega)
        omega
      · intro x hx
        rcases List.mem_append.1 hx with h | h
        · obtain ⟨j, hj, e⟩ := h2 x h
          exact ⟨j, by omega, e⟩
        · simp at h; exact ⟨m, by omega, h.symm⟩
      · intro j hj
        by_cases hjm : j = m
        · subst hjm; simp
        · exact List.mem_append_left _ (h3 j (by omega))
    · rw [if_neg hk, List.append_nil]
      refine ⟨h1, fun x hx => ?_, fun j hj => ?_⟩
      · obtain ⟨j, hj, e⟩ := h2 x hx
        exact ⟨j, by omega, e⟩
      · by_cases hjm : j = m
        · have : 0 < m ∧ d[m - 1]! = d[m]! := by
            unfold Lib.keeps at hk
            simp at hk
            omega
          rw [hjm, ← this.2]
          exact h3 (m - 1) (by omega)
        · exact h3 j (by omega)
theorem compact_sorted {zs : List Int} (h : zs.Pairwise (· ≤ ·)) : (Lib.compact zs).Pairwise (· < ·) ∧ ∀ x, x ∈ Lib.compact zs ↔ x ∈ zs := by
  have hd : ∀ i j, i ≤ j → j < zs.toArray.size → zs.toArray[i]! ≤ zs.toArray[j]! := by
    intro i j hij hj
    simp at hj
    have hi : i < zs.length := by omega
    simp [hi, hj]
    rcases Nat.lt_or_ge i j with h' | h'
    · exact List.pairwise_iff_getElem.1 h i j hi hj h'
    · have : i = j := by omega
      subst this; exact Int.le_refl _
  obtain ⟨h1, h2, h3⟩ := compactUp_ok zs.toArray hd zs.length (by simp)
  refine ⟨h1, fun x => ⟨fun hx => ?_, fun hx => ?_⟩⟩
  · obtain ⟨j, hj, rfl⟩ := h2 x hx
    simp [hj]
  · obtain ⟨j, hj, rfl⟩ := List.getElem_of_mem hx
    have := h3 j hj
    simpa [hj, Lib.compact] using this
end Go.Proofs.Ytdmdmbcapjmnlab
