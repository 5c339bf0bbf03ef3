/- Towards the statements of package code (layer 8): what a program that may be is like, as mathematics: its subprograms one behind the other. -/
import Derived.Test.YtdmdmbcapjmnlaaGreatCV
namespace Go.Proofs.YtdmdmbcapjmnlaaGreat
set_option linter.unusedVariables false
set_option linter.unusedSimpArgs false
set_option linter.unusedSectionVars false
section
variable {L : List Sl} (hp : Passed L 8)
include hp
theorem may_len : (slM L).length = (hsM L).length := subF_len _ _ _
theorem may_pos : 0 < (slM L).length := by rw [may_len hp]; exact List.length_pos_iff.2 (pass_heads hp (by decide)).ne
theorem may_get (k : Nat) (hk : k < (slM L).length) : ∃ x y, (slM L)[k]? = some (x, y) ∧ (hsM L)[k]? = some x ∧ y = toOf (hsM L) L.length k ∧ x < y ∧ y ≤ L.length := by
  have ho := pass_heads hp (by decide : 4 ≤ 8)
  rw [may_len hp] at hk
  have h1 : (hsM L)[k]? = some (hsM L)[k] := List.getElem?_eq_getElem hk
  refine ⟨(hsM L)[k], toOf (hsM L) L.length k, ?_, h1, rfl, ho.ltTo k _ h1, ho.toLe k⟩
  rw [slM, subF_get _ _ _ _ hk, h1]; rfl
theorem may_zero : ∃ y, (slM L)[0]? = some (0, y) := by
  obtain ⟨x, y, h1, h2, _⟩ := may_get hp 0 (may_pos hp)
  have ho := pass_heads hp (by decide : 4 ≤ 8)
  rw [ho.zero] at h2
  cases h2
  exact ⟨y, h1⟩
theorem may_next (k x y x' y' : Nat) (h : (slM L)[k]? = some (x, y)) (h' : (slM L)[k + 1]? = some (x', y')) : y = x' := by
  obtain ⟨a, b, h1, h2, h3, _⟩ := may_get hp k (List.getElem?_eq_some_iff.1 h).1
  obtain ⟨a', b', h1', h2', h3', _⟩ := may_get hp (k + 1) (List.getElem?_eq_some_iff.1 h').1
  rw [h] at h1; cases h1
  rw [h'] at h1'; cases h1'
  rw [h3, toOf, h2']; rfl
theorem may_last (k x y : Nat) (h : (slM L)[k]? = some (x, y)) (hk : k + 1 = (slM L).length) : y = L.length := by
  obtain ⟨a, b, h1, h2, h3, _⟩ := may_get hp k (List.getElem?_eq_some_iff.1 h).1
  rw [h] at h1; cases h1
  rw [h3, toOf, List.getElem?_eq_none (by rw [← may_len hp]; omega)]; rfl
end
/-- The subprogram of a slot is the one in which it lies. -/
theorem home_in (hs : List Nat) (len : Nat) (hup : hs.Pairwise (· < ·)) (hlt : ∀ x ∈ hs, x < len) : ∀ (n j : Nat), n ≤ hs.length → j < len → ∀ (i : Nat), i < n → hs[i]?.getD 0 ≤ j → j < toOf hs len i → (homeF hs len n)[j]? = some i
  | 0, j, _, _, i, h, _, _ => by omega
  | n + 1, j, hn, hj, i, hi, h1, h2 => by
    have hl : j < (homeF hs len n).length := by rw [homeF_len]; exact hj
    have hval : (homeF hs len (n + 1))[j]? = some (if hs[n]?.getD 0 ≤ j ∧ j < toOf hs len n then n else (homeF hs len n)[j]) := by
      rw [homeF, setR, List.getElem?_mapIdx, List.getElem?_eq_getElem hl]; rfl
    rw [hval]
    by_cases hin : i = n
    · subst hin; rw [if_pos ⟨h1, h2⟩]
    · have hlt' : i < n := by omega
      have : ¬ (hs[n]?.getD 0 ≤ j ∧ j < toOf hs len n) := by
        rintro ⟨h3, _⟩
        have hn' : n < hs.length := by omega
        have hi1 : i + 1 < hs.length := by omega
        have e1 : toOf hs len i = hs[i + 1] := by rw [toOf, List.getElem?_eq_getElem hi1]; rfl
        have e2 : hs[n]?.getD 0 = hs[n] := by rw [List.getElem?_eq_getElem hn']; rfl
        have : hs[i + 1] ≤ hs[n] := by
          by_cases h : i + 1 = n
          · subst h; exact Nat.le_refl _
          · exact Nat.le_of_lt (List.pairwise_iff_getElem.1 hup (i + 1) n hi1 hn' (by omega))
        omega
      rw [if_neg this]
      have := home_in hs len hup hlt n j (by omega) hj i hlt' h1 h2
      rw [List.getElem?_eq_getElem hl] at this
      exact this
theorem walkF_kind (L : List Sl) : ∀ (f k : Nat) (Bg : List Bool), (∀ j : Nat, Bg[j]?.getD false = true → kindM L j ≠ 0) → ∀ j : Nat, (walkF L f k Bg).2[j]?.getD false = true → kindM L j ≠ 0
  | 0, k, Bg, h, j, hj => h j hj
  | f + 1, k, Bg, h, j, hj => by
    have hset : kindM L k ≠ 0 → ∀ j : Nat, (Bg.set k true)[j]?.getD false = true → kindM L j ≠ 0 := fun hk j hj => by
      rcases getD_set.1 hj with ⟨rfl, _⟩ | hj
      · exact hk
      · exact h j hj
    rw [walkF] at hj
    split at hj
    · split at hj
      · exact h j hj
      · rename_i h0
        split at hj
        · split at hj
          · exact walkF_kind L f _ _ (hset h0) j hj
          · exact h j hj
        · exact walkF_kind L f _ _ (hset h0) j hj
    · exact h j hj
theorem beg_kind (L : List Sl) (j : Nat) (h : (bgM L)[j]?.getD false = true) : kindM L j ≠ 0 := walkF_kind L _ _ _ (fun j hj => by
  by_cases h : j < L.length
  · simp [h] at hj
  · simp [h] at hj) j h
/-- Slots at which instructions begin. -/
def isBeg (L : List Sl) (u : Nat) : Prop := u < L.length ∧ (bgM L)[u]?.getD false = true
section
variable {L : List Sl} (hp : Passed L 8)
include hp
theorem may_home (k x y : Nat) (h : (slM L)[k]? = some (x, y)) (u : Nat) (h1 : x ≤ u) (h2 : u < y) : (hlM L)[u]? = some k := by
  have ho := pass_heads hp (by decide : 4 ≤ 8)
  obtain ⟨a, b, g1, g2, g3, g4, g5⟩ := may_get hp k (List.getElem?_eq_some_iff.1 h).1
  rw [h] at g1; cases g1
  refine home_in (hsM L) L.length ho.up ho.lt _ u (Nat.le_refl _) (by omega) k (List.getElem?_eq_some_iff.1 g2).1 ?_ (by rw [← g3]; exact h2)
  rw [g2]; exact h1
theorem may_leads (k x y : Nat) (h : (slM L)[k]? = some (x, y)) (u : Nat) (h1 : x ≤ u) (h2 : u < y) (hu : isBeg L u) : ∀ t ∈ leadsM L u, 0 ≤ t ∧ x ≤ t.toNat ∧ t.toNat < y ∧ isBeg L t.toNat := by
  intro t ht
  have ho := pass_heads hp (by decide : 4 ≤ 8)
  obtain ⟨a, b, c⟩ := ho.leadsIn (bg_len L) (pass3 hp (by decide)) (pass5 hp (by decide)) u hu t ht
  have hm : (u : Int) ∈ begL (bgM L) 0 L.length := by
    unfold begL
    refine List.mem_map.2 ⟨u, List.mem_filter.2 ⟨?_, hu.2⟩, rfl⟩
    rw [List.mem_range']
    exact ⟨u, by have := hu.1; omega, by omega⟩
  have hl := pass5 hp (by decide) _ hm
  unfold leaveB at hl
  have h4 := List.any_eq_false.1 hl t ht
  rw [Int.toNat_natCast, subOf, may_home hp k x y h u h1 h2, Option.getD_some, h, Option.getD_some] at h4
  simp [outB] at h4
  exact ⟨a, by omega, by omega, b, c⟩
theorem may_exit (u : Nat) (hu : isBeg L u) (h : leadsM L u = []) : kindM L u = 8 := by
  have h0 := beg_kind L u hu.2
  unfold leadsM at h
  unfold kindM at h0 ⊢
  rw [slotAt_nat hu.1] at h h0 ⊢
  dsimp only at h h0 ⊢
  split at h
  · rename_i h'
    rcases h' with h' | h'
    · exact absurd h' h0
    · exact h'
  · split at h
    · cases h
    · split at h
      · cases h
      · split at h <;> cases h
theorem may_callee (u : Nat) (hu : isBeg L u) (t : Int) (ht : calleeM L u = some t) : 0 ≤ t ∧ ∃ (j y : Nat), (slM L)[j]? = some (t.toNat, y) := by
  have ho := pass_heads hp (by decide : 4 ≤ 8)
  have hm : (u : Int) ∈ begL (bgM L) 0 L.length := by
    unfold begL
    refine List.mem_map.2 ⟨u, List.mem_filter.2 ⟨?_, hu.2⟩, rfl⟩
    rw [List.mem_range']
    exact ⟨u, by have := hu.1; omega, by omega⟩
  obtain ⟨a, b, c⟩ := ho.all _ hm t ht
  obtain ⟨j, hj, e⟩ := List.getElem_of_mem c
  obtain ⟨x, y, g1, g2, _⟩ := may_get hp j (by rw [may_len hp]; exact hj)
  rw [List.getElem?_eq_getElem hj, e] at g2
  cases g2
  exact ⟨a, j, y, g1⟩
theorem may_beg (k x y : Nat) (h : (slM L)[k]? = some (x, y)) : isBeg L x := by
  have ho := pass_heads hp (by decide : 4 ≤ 8)
  exact ho.subBeg (walkM_zero (pass0 hp (by decide)) (pass2 hp (by decide))) (x, y) (List.mem_of_getElem? h)
end
end Go.Proofs.YtdmdmbcapjmnlaaGreat
