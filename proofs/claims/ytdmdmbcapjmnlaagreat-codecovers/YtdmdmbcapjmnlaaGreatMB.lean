/- Towards the statements of package code (layer 8): chains of calls, as mathematics. -/
import Derived.Test.YtdmdmbcapjmnlaaGreatMA
import Derived.Test.YtdmdmbcapjmnlaaGreatCW
namespace Go.Proofs.YtdmdmbcapjmnlaaGreat
set_option linter.unusedVariables false
set_option linter.unusedSimpArgs false
set_option linter.unusedSectionVars false
abbrev callsM (L : List Sl) : Nat → List Nat := callsN L (bgM L) (slM L) (hlM L)
theorem nodup_len : ∀ (n : Nat) (p : List Nat), p.Nodup → (∀ j ∈ p, j < n) → p.length ≤ n
  | 0, p, _, h2 => by
    cases p with
    | nil => simp
    | cons a t => have := h2 a (by simp); omega
  | n + 1, p, h1, h2 => by
    by_cases hm : n ∈ p
    · have := nodup_len n (p.erase n) (h1.erase n) (fun j hj => by
        have h3 := (h1.mem_erase_iff).1 hj
        have := h2 j h3.2
        have := h3.1
        omega)
      rw [List.length_erase_of_mem hm] at this
      omega
    · have := nodup_len n p h1 (fun j hj => by
        have := h2 j hj
        have : j ≠ n := fun e => hm (e ▸ hj)
        omega)
      omega
section
variable {L : List Sl} (hp : Passed L 8)
include hp
theorem beg_mem (u : Nat) (hu : isBeg L u) : (u : Int) ∈ begM L := by
  rw [begM, bg_len]
  unfold begL
  refine List.mem_map.2 ⟨u, List.mem_filter.2 ⟨?_, hu.2⟩, rfl⟩
  rw [List.mem_range']
  exact ⟨u, by have := hu.1; omega, by omega⟩
theorem no_loop (k x y : Nat) (h : (slM L)[k]? = some (x, y)) : ¬ Rch (callsM L) [k] k := by
  classical
  intro hr
  have h7 : (leastX (begM L) (fun x => loopB L (bgM L) (slM L) (hlM L) x.toNat) 83).2 = 0 := hp 7 (by decide)
  have hb := may_beg hp k x y h
  have hl := least_zero (by decide) h7 _ (beg_mem hp x hb)
  rw [Int.toNat_natCast] at hl
  obtain ⟨a, b, g1, g2, g3, g4, g5⟩ := may_get hp k (List.getElem?_eq_some_iff.1 h).1
  rw [h] at g1; cases g1
  have hh := may_home hp k x y h x (Nat.le_refl _) g4
  have : loopB L (bgM L) (slM L) (hlM L) x = true := by
    refine loopB_yes ?_ ?_
    · rw [hh, Option.getD_some, h]; rfl
    · rw [hh]; exact hr
  rw [this] at hl
  cases hl
/-- So far a chain of calls has come: the subprograms on it, none of them twice. -/
structure Chain (L : List Sl) (d cur : Nat) (p : List Nat) : Prop where
  len : p.length = d + 1
  nodup : p.Nodup
  lt : ∀ j ∈ p, j < (slM L).length
  thr : ∀ j ∈ p, j = cur ∨ Rch (callsM L) [j] cur
  cur : cur ∈ p
theorem chain_one (k : Nat) (hk : k < (slM L).length) : Chain L 0 k [k] := ⟨rfl, by simp, by simpa using hk, by simp, by simp⟩
theorem Chain.depth {d cur : Nat} {p : List Nat} (h : Chain L d cur p) : d + 1 ≤ (slM L).length := by
  rw [← h.len]; exact nodup_len _ _ h.nodup h.lt
theorem Chain.step {d cur nxt : Nat} {p : List Nat} (h : Chain L d cur p) (hn : nxt ∈ callsM L cur) (hlt : nxt < (slM L).length) : Chain L (d + 1) nxt (nxt :: p) := by
  have hno : nxt ∉ p := by
    intro hm
    obtain ⟨z, hz⟩ : ∃ z, (slM L)[nxt]? = some z := ⟨_, List.getElem?_eq_getElem hlt⟩
    refine no_loop hp nxt z.1 z.2 hz ?_
    rcases h.thr nxt hm with e | e
    · exact .one nxt nxt (by simp) (by rw [← e] at hn; exact hn)
    · exact .more cur nxt e hn
  refine ⟨by simp [h.len], List.nodup_cons.2 ⟨hno, h.nodup⟩, ?_, ?_, by simp⟩
  · intro j hj
    rcases List.mem_cons.1 hj with rfl | hj
    · exact hlt
    · exact h.lt j hj
  · intro j hj
    rcases List.mem_cons.1 hj with rfl | hj
    · exact .inl rfl
    · rcases h.thr j hj with e | e
      · exact .inr (.one j nxt (by simp) (by rw [e]; exact hn))
      · exact .inr (.more cur nxt e hn)
theorem may_calls (k x y : Nat) (h : (slM L)[k]? = some (x, y)) (u : Nat) (h1 : x ≤ u) (h2 : u < y) (hu : isBeg L u) (t : Int) (ht : calleeM L u = some t) (hf : funB L u = false) : 0 ≤ t ∧ ∃ (j y' : Nat), (slM L)[j]? = some (t.toNat, y') ∧ j ∈ callsM L k := by
  obtain ⟨h0, j, y', hj⟩ := may_callee hp u hu t ht
  refine ⟨h0, j, y', hj, ?_⟩
  obtain ⟨a, b, g1, g2, g3, g4, g5⟩ := may_get hp j (List.getElem?_eq_some_iff.1 hj).1
  rw [hj] at g1; cases g1
  have hh := may_home hp j _ _ hj t.toNat (Nat.le_refl _) g4
  unfold callsM callsN
  rw [h, Option.getD_some]
  refine List.mem_filterMap.2 ⟨(u : Int), ?_, ?_⟩
  · unfold begL
    refine List.mem_map.2 ⟨u, List.mem_filter.2 ⟨?_, hu.2⟩, rfl⟩
    rw [List.mem_range']
    exact ⟨u - x, by omega, by omega⟩
  · rw [callN, ht]
    simp [hf, hh]
end
end Go.Proofs.YtdmdmbcapjmnlaaGreat
