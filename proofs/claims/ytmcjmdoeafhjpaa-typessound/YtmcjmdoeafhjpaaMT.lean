/- Towards the statements of package types (layer 10): the bytes of a type that may be. -/
import Derived.Test.YtmcjmdoeafhjpaaMS
namespace Go.Proofs.Ytmcjmdoeafhjpaa
set_option linter.unusedVariables false
set_option linter.unusedSimpArgs false
set_option maxRecDepth 20000
theorem field_parts {s : Int} {ahead : List Fd} {x : Fd} (h : fieldX s ahead x = 0) : mayM (bt x.n) = true ∧ x.a.tmod 8 = 0 ∧ sizeM x.k ≠ 0 ∧ plainM s ahead x.a (sizeM x.k) = true := by
  unfold fieldX at h
  split at h
  · omega
  rename_i h1
  split at h
  · omega
  split at h
  · omega
  rename_i h3
  split at h
  · omega
  rename_i h4
  refine ⟨by simpa using h1, ?_, h3, ?_⟩
  · by_cases h8 : x.a.tmod 8 = 0
    · exact h8
    · exact absurd (.inl h8) h4
  · cases hp : plainM s ahead x.a (sizeM x.k) with
    | true => rfl
    | false => exact absurd (.inr hp) h4
theorem May10.good {L : List Ty} {i : Nat} {t : Ty} (h : May10 L i t) : Good t.fs := by
  intro x hx
  obtain ⟨j, hj⟩ := List.getElem?_of_mem hx
  exact good_of h.size.2.1 (h.flds j x hj)
theorem May10.good_take {L : List Ty} {i : Nat} {t : Ty} (h : May10 L i t) (j : Nat) : Good (t.fs.take j) := fun x hx => h.good x (List.mem_of_mem_take hx)
theorem May10.field {L : List Ty} {i : Nat} {t : Ty} (h : May10 L i t) {j : Nat} {x : Fd} (hx : t.fs[j]? = some x) : mayM (bt x.n) = true ∧ x.a.tmod 8 = 0 ∧ 0 < sizeM x.k ∧ 0 ≤ x.a ∧ x.a + sizeM x.k ≤ t.s ∧ ∀ y ∈ t.fs.take j, ¬ (x.a < y.a + sizeM y.k ∧ y.a < x.a + sizeM x.k) := by
  obtain ⟨a, b, c, d⟩ := field_parts (h.flds j x hx)
  have hb := sizeM_bd x.k
  have hp : 0 < sizeM x.k := by omega
  obtain ⟨e, f, g, k⟩ := (plain_ref hp (h.good_take j)).1 d
  exact ⟨a, b, hp, e, by omega, k⟩
theorem May10.apart {L : List Ty} {i : Nat} {t : Ty} (h : May10 L i t) : t.fs.Pairwise fun y x => ¬ (x.a < y.a + sizeM y.k ∧ y.a < x.a + sizeM x.k) := by
  rw [List.pairwise_iff_getElem]
  intro j k hj hk hjk
  refine (h.field (List.getElem?_eq_getElem hk)).2.2.2.2.2 _ ?_
  exact List.mem_of_getElem? (i := j) (by rw [List.getElem?_take, if_pos hjk, List.getElem?_eq_getElem hj])
/-- Is the byte at a the field's? -/
def isAt (a : Int) (x : Fd) : Bool := decide (x.a ≤ a) && decide (a < x.a + sizeM x.k)
theorem over_one {a : Int} : ∀ {fs : List Fd}, (fs.Pairwise fun y x => ¬ (x.a < y.a + sizeM y.k ∧ y.a < x.a + sizeM x.k)) → fs.countP (isAt a) ≤ 1
  | [], _ => by simp
  | y :: fs, h => by
    rw [List.pairwise_cons] at h
    rw [List.countP_cons]
    have ih := over_one (a := a) h.2
    split
    · rename_i hy
      have : fs.countP (isAt a) = 0 := by
        rw [List.countP_eq_zero]
        intro x hx hxa
        have := h.1 x hx
        simp [isAt] at hy hxa
        omega
      omega
    · omega
theorem May10.one {L : List Ty} {i : Nat} {t : Ty} (h : May10 L i t) (a : Int) : t.fs.countP (isAt a) ≤ 1 := over_one h.apart
theorem May10.plain {L : List Ty} {i : Nat} {t : Ty} (h : May10 L i t) {a : Int} (h0 : 0 ≤ a) (ha : a < t.s) : plainM t.s t.fs a 1 = (t.fs.countP (isAt a) == 0) := by
  rw [Bool.eq_iff_iff, plain_ref (by omega) h.good]
  rw [beq_iff_eq, List.countP_eq_zero]
  constructor
  · rintro ⟨_, _, _, k⟩ x hx hxa
    have := k x hx
    simp [isAt] at hxa
    omega
  · intro k
    refine ⟨h0, by omega, by omega, fun y hy hc => k y hy ?_⟩
    simp [isAt]
    omega
theorem plain_off (s : Int) (fs : List Fd) : plainM s fs s 1 = false ∧ plainM s fs (-1) 1 = false ∧ plainM s fs 0 0 = false ∧ plainM s fs 0 (s + 1) = false := by
  refine ⟨?_, ?_, ?_, ?_⟩ <;> (unfold plainM; rw [if_pos (by omega)])
/-- The field at a field's place is that field. -/
theorem May10.at {L : List Ty} {i : Nat} {t : Ty} (h : May10 L i t) {j : Nat} {x : Fd} (hx : t.fs[j]? = some x) : firstI (fun y => y.a == x.a) t.fs = j ∧ (t.fs.any fun y => y.a == x.a) = true := by
  have hany : (t.fs.any fun y => y.a == x.a) = true := List.any_eq_true.2 ⟨x, List.mem_of_getElem? hx, by simp⟩
  refine ⟨?_, hany⟩
  rw [firstI, hany, if_pos rfl]
  refine idx_some hx (by simp) fun k y hk hy => ?_
  have hp := (h.field hx).2.2
  have := hp.2.2.2 y (List.mem_of_getElem? (i := k) (by rw [List.getElem?_take, if_pos hk]; exact hy))
  have hq := (h.field hy).2.2.1
  have hne : y.a ≠ x.a := by omega
  simpa using hne
end Go.Proofs.Ytmcjmdoeafhjpaa
