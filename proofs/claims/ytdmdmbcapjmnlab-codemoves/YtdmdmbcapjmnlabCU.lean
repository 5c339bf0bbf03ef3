/- Towards the statements of package code (layer 8): heads and subprograms, as mathematics. -/
import Derived.Test.YtdmdmbcapjmnlabCS
namespace Go.Proofs.Ytdmdmbcapjmnlab
set_option linter.unusedVariables false
set_option linter.unusedSimpArgs false

theorem walkF_mono (L : List Sl) : ∀ (f k : Nat) (Bg : List Bool) (j : Nat), Bg[j]?.getD false = true → (walkF L f k Bg).2[j]?.getD false = true
  | 0, k, Bg, j, h => h
  | f + 1, k, Bg, j, h => by
    rw [walkF]
    split
    · split
      · exact h
      · split
        · split
          · exact walkF_mono L f _ _ j (getD_set.2 (.inr h))
          · exact h
        · exact walkF_mono L f _ _ j (getD_set.2 (.inr h))
    · exact h
/-- The slot 0 begins an instruction, of a program that is walked through. -/
theorem walkM_zero {L : List Sl} (h0 : L.length ≠ 0) (hw : L.length ≤ (walkM L).1) : (walkM L).2[0]?.getD false = true := by
  unfold walkM at hw ⊢
  rw [walkF] at hw ⊢
  have hp : 0 < L.length := by omega
  rw [if_pos hp] at hw ⊢
  split at hw
  · exact absurd (show L.length ≤ 0 from hw) (by omega)
  · rename_i h1
    rw [if_neg h1]
    split at hw
    · rename_i h2
      rw [if_pos h2]
      split at hw
      · rename_i h3
        rw [if_pos h3]
        exact walkF_mono L _ _ _ 0 (getD_set.2 (.inl ⟨rfl, by simpa using hp⟩))
      · exact absurd (show L.length ≤ 0 from hw) (by omega)
    · rename_i h2
      rw [if_neg h2]
      exact walkF_mono L _ _ _ 0 (getD_set.2 (.inl ⟨rfl, by simpa using hp⟩))
theorem begB_iff {L : List Sl} {Bg : List Bool} {t : Int} : begB L Bg t = true ↔ 0 ≤ t ∧ t < L.length ∧ Bg[t.toNat]?.getD false = true := by
  simp [begB, thereB, and_assoc]
/-- What is known of the beginnings of subprograms. -/
structure HeadsOk (L : List Sl) (Bg : List Bool) (hs : List Nat) : Prop where
  eq : headsM L Bg = hs.map Int.ofNat
  up : hs.Pairwise (· < ·)
  lt : ∀ x ∈ hs, x < L.length
  beg : ∀ x ∈ hs, x = 0 ∨ Bg[x]?.getD false = true
  zero : hs[0]? = some 0
  len : hs.length ≤ L.length + 1
  all : ∀ y ∈ begL Bg 0 L.length, ∀ t, calleeM L y = some t → 0 ≤ t ∧ t < L.length ∧ t.toNat ∈ hs
theorem begL_len2 (Bg : List Bool) (a b : Nat) : (begL Bg a b).length ≤ b - a := begL_len Bg a b
theorem heads_ok {L : List Sl} {Bg : List Bool} (h0 : L.length ≠ 0) (hst : ∀ y ∈ begL Bg 0 L.length, strayB L Bg y = false) : HeadsOk L Bg ((headsM L Bg).map Int.toNat) := by
  have hcal : ∀ y ∈ begL Bg 0 L.length, ∀ t, calleeM L y = some t → 0 ≤ t ∧ t < L.length ∧ Bg[t.toNat]?.getD false = true := by
    intro y hy t ht
    have := hst y hy
    unfold strayB at this
    simp only [Bool.or_eq_false_iff] at this
    have h2 := this.2.2
    rw [namesBad, ht] at h2
    simp at h2
    exact begB_iff.1 h2
  have hsort : ((namedL L (begL Bg 0 L.length)).mergeSort fun x y => decide (x ≤ y)).Pairwise (· ≤ ·) := by
    have := List.pairwise_mergeSort (le := fun x y : Int => decide (x ≤ y)) (fun a b c h1 h2 => by simp at *; omega) (fun a b => by simp; omega) (namedL L (begL Bg 0 L.length))
    exact this.imp fun h => by simpa using h
  obtain ⟨hp, hm⟩ := compact_sorted hsort
  have hmem : ∀ x, x ∈ headsM L Bg ↔ x = 0 ∨ ∃ y ∈ begL Bg 0 L.length, calleeM L y = some x := by
    intro x
    show x ∈ Lib.compact _ ↔ _
    rw [hm x, List.mem_mergeSort, namedL, List.mem_cons, List.mem_filterMap]
  have hnn : ∀ x ∈ headsM L Bg, 0 ≤ x ∧ x < L.length ∧ (x = 0 ∨ Bg[x.toNat]?.getD false = true) := by
    intro x hx
    rcases (hmem x).1 hx with rfl | ⟨y, hy, hc⟩
    · exact ⟨Int.le_refl _, by omega, .inl rfl⟩
    · obtain ⟨a, b, c⟩ := hcal y hy x hc
      exact ⟨a, b, .inr c⟩
  have hpm : ((headsM L Bg).map Int.toNat).Pairwise (· < ·) := by
    rw [List.pairwise_map]
    refine List.Pairwise.imp_of_mem (fun {a b} ha hb hab => ?_) hp
    have := (hnn a ha).1
    have := (hnn b hb).1
    omega
  have hall : ∀ y ∈ begL Bg 0 L.length, ∀ t, calleeM L y = some t → t.toNat ∈ (headsM L Bg).map Int.toNat := fun y hy t ht => List.mem_map.2 ⟨t, (hmem t).2 (.inr ⟨y, hy, ht⟩), rfl⟩
  refine ⟨?_, hpm, ?_, ?_, ?_, ?_, fun y hy t ht => ⟨(hcal y hy t ht).1, (hcal y hy t ht).2.1, hall y hy t ht⟩⟩
  · rw [List.map_map]
    conv => lhs; rw [← List.map_id (headsM L Bg)]
    refine List.map_congr_left fun x hx => ?_
    have := (hnn x hx).1
    simp
    omega
  · intro x hx
    obtain ⟨y, hy, rfl⟩ := List.mem_map.1 hx
    have := hnn y hy
    omega
  · intro x hx
    obtain ⟨y, hy, rfl⟩ := List.mem_map.1 hx
    rcases (hnn y hy).2.2 with h | h
    · exact .inl (by omega)
    · exact .inr h
  · have h0m : 0 ∈ (headsM L Bg).map Int.toNat := List.mem_map.2 ⟨0, (hmem 0).2 (.inl rfl), rfl⟩
    generalize (headsM L Bg).map Int.toNat = q at hpm h0m
    cases q with
    | nil => cases h0m
    | cons a t =>
      rcases List.mem_cons.1 h0m with h | h
      · rw [← h]; rfl
      · have := (List.pairwise_cons.1 hpm).1 0 h
        omega
  · rw [List.length_map]
    refine Nat.le_trans (Lib.compact_length_le _) ?_
    rw [List.length_mergeSort]
    refine Nat.le_trans (namedL_len _ _) ?_
    have := begL_len2 Bg 0 L.length
    omega
theorem subF_get (hs : List Nat) (len : Nat) : ∀ (n i : Nat), i < n → (subF hs len n)[i]? = some (hs[i]?.getD 0, toOf hs len i)
  | 0, i, h => by omega
  | n + 1, i, h => by
    rw [subF]
    by_cases hi : i < n
    · rw [List.getElem?_append_left (by rw [subF_len]; exact hi)]
      exact subF_get hs len n i hi
    · have : i = n := by omega
      subst this
      rw [List.getElem?_append_right (by rw [subF_len]; exact Nat.le_refl _), subF_len]
      simp
theorem homeF_lt (hs : List Nat) (len : Nat) : ∀ (n : Nat), ∀ h ∈ homeF hs len n, h = 0 ∨ h < n
  | 0, h, hh => by rw [homeF] at hh; exact .inl (List.eq_of_mem_replicate hh)
  | n + 1, h, hh => by
    rw [homeF, setR, List.mem_mapIdx] at hh
    obtain ⟨j, hj, e⟩ := hh
    split at e
    · exact .inr (by omega)
    · rcases homeF_lt hs len n h (e ▸ List.getElem_mem hj) with h | h
      · exact .inl h
      · exact .inr (by omega)
section
variable {L : List Sl} {Bg : List Bool} {hs : List Nat} (ho : HeadsOk L Bg hs)
include ho
theorem HeadsOk.ne : hs ≠ [] := fun e => by have := ho.zero; rw [e] at this; cases this
theorem HeadsOk.toLe (i : Nat) : toOf hs L.length i ≤ L.length := by
  unfold toOf
  cases e : hs[i + 1]? with
  | none => exact Nat.le_refl _
  | some y => exact Nat.le_of_lt (ho.lt y (List.mem_of_getElem? e))
theorem HeadsOk.ltTo (i x : Nat) (h : hs[i]? = some x) : x < toOf hs L.length i := by
  unfold toOf
  cases e : hs[i + 1]? with
  | none => exact ho.lt x (List.mem_of_getElem? h)
  | some y =>
    obtain ⟨h1, h2⟩ := List.getElem?_eq_some_iff.1 h
    obtain ⟨h3, h4⟩ := List.getElem?_eq_some_iff.1 e
    have := List.pairwise_iff_getElem.1 ho.up i (i + 1) h1 h3 (by omega)
    show x < y
    omega
theorem HeadsOk.sub (hLB : Bg.length = L.length) : SubOk L Bg (subF hs L.length hs.length) (homeF hs L.length hs.length) := by
  have hp : 0 < hs.length := List.length_pos_iff.2 ho.ne
  refine ⟨hLB, homeF_len _ _ _, ?_, ?_, fun y hy t ht => ⟨(ho.all y hy t ht).1, (ho.all y hy t ht).2.1⟩⟩
  · intro h hh
    rw [subF_len]
    rcases homeF_lt hs L.length hs.length h hh with h | h <;> omega
  · intro x hx
    obtain ⟨k, hk, rfl⟩ := subF_mem _ _ _ _ hx
    have hk' : hs[k]? = some hs[k] := List.getElem?_eq_getElem hk
    have := ho.ltTo k _ hk'
    rw [hk']
    exact ⟨Nat.le_of_lt this, ho.toLe k⟩
/-- Whoever begins, leads to those that begin. -/
theorem HeadsOk.leadsIn (hLB : Bg.length = L.length) (hst : ∀ y ∈ begL Bg 0 L.length, strayB L Bg y = false) (hlv : ∀ y ∈ begL Bg 0 L.length, leaveB L (subF hs L.length hs.length) (homeF hs L.length hs.length) y = false) (u : Nat) (hu : u < L.length ∧ Bg[u]?.getD false = true) : ∀ t ∈ leadsM L u, 0 ≤ t ∧ t.toNat < L.length ∧ Bg[t.toNat]?.getD false = true := by
  intro t ht
  have hm : (u : Int) ∈ begL Bg 0 L.length := by
    unfold begL
    refine List.mem_map.2 ⟨u, List.mem_filter.2 ⟨?_, hu.2⟩, rfl⟩
    rw [List.mem_range']
    exact ⟨u, by omega, by omega⟩
  have h1 := hst _ hm
  have h2 := hlv _ hm
  unfold strayB at h1
  simp only [Bool.or_eq_false_iff] at h1
  have h3 := List.any_eq_false.1 h1.1 t ht
  unfold leaveB at h2
  have h4 := List.any_eq_false.1 h2 t ht
  have ok := ho.sub hLB
  have hk : u < (homeF hs L.length hs.length).length := by rw [homeF_len]; exact hu.1
  have hh := ok.hin _ (List.getElem_mem hk)
  have hx := ok.up _ (List.getElem_mem hh)
  have e : subOf (subF hs L.length hs.length) (homeF hs L.length hs.length) u = (subF hs L.length hs.length)[(homeF hs L.length hs.length)[u]] := by
    simp only [subOf, List.getElem?_eq_getElem hk, Option.getD_some, List.getElem?_eq_getElem hh]
  rw [Int.toNat_natCast, e] at h4
  simp [outB] at h4
  simp only [badB, Bool.and_eq_true, decide_eq_true_eq, Bool.not_eq_true', not_and, Bool.not_eq_false] at h3
  obtain ⟨a, b, c⟩ := begB_iff.1 (h3 (by omega))
  exact ⟨a, by omega, c⟩
theorem HeadsOk.subBeg (hz : Bg[0]?.getD false = true) : ∀ x ∈ subF hs L.length hs.length, x.1 < L.length ∧ Bg[x.1]?.getD false = true := by
  intro x hx
  obtain ⟨k, hk, rfl⟩ := subF_mem _ _ _ _ hx
  have hk' : hs[k]? = some hs[k] := List.getElem?_eq_getElem hk
  rw [hk']
  refine ⟨ho.lt _ (List.getElem_mem hk), ?_⟩
  rcases ho.beg _ (List.getElem_mem hk) with h | h
  · show Bg[hs[k]]?.getD false = true
    rw [h]; exact hz
  · exact h
end
theorem leadsM_none {L : List Sl} {Bg : List Bool} (hr : ∀ j : Nat, j < L.length → Bg[j]?.getD false = false → kindM L j = 0) (u : Nat) (hu : ¬ (u < L.length ∧ Bg[u]?.getD false = true)) : leadsM L u = [] := by
  unfold leadsM
  cases e : slotAt L u with
  | none => rfl
  | some x =>
    have hlt : u < L.length := by
      have := (slotAt_some e).2
      rw [Int.toNat_natCast] at this
      exact (List.getElem?_eq_some_iff.1 this).1
    have hb : Bg[u]?.getD false = false := by
      cases hb : Bg[u]?.getD false with
      | false => rfl
      | true => exact absurd ⟨hlt, hb⟩ hu
    have := hr u hlt hb
    rw [kindM, e] at this
    simp [this]
end Go.Proofs.Ytdmdmbcapjmnlab
