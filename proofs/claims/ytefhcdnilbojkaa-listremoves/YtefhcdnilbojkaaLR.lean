/- Towards ListRemoves: what is left behind removals, as lists. -/
import Derived.Test.YtefhcdnilbojkaaLT
namespace Go.Proofs.Ytefhcdnilbojkaa
open Go.ChangeShapes Go.WideShapes Go.ChangeAt Go.RowKit
set_option linter.unusedVariables false
set_option linter.unusedSimpArgs false
set_option maxRecDepth 20000
def oneK (i : Nat) : HKey := ((i : Int), 1)
theorem oneK_inj {i j : Nat} (h : oneK i = oneK j) : i = j := by simp [oneK] at h; omega
def keepL (M : Nat) (G : List Int) : List Nat := (List.range M).filter fun k => decide ((k : Int) ∉ G)
def goneL (M : Nat) (G : List Int) : List Nat := (List.range M).filter fun k => decide ((k : Int) ∈ G)
def keepK (M : Nat) (G : List Int) : List HKey := (keepL M G).map oneK
def goneF (G : List Int) : Int → Option Value := fun k => if k ∈ G then some (.int .i64 1) else none
theorem keep_nil (M : Nat) : keepL M [] = List.range M := by simp [keepL]
theorem mem_keep {M : Nat} {G : List Int} {k : Nat} : k ∈ keepL M G ↔ k < M ∧ (k : Int) ∉ G := by simp [keepL]
theorem mem_keepK {M : Nat} {G : List Int} {c : Int} (h0 : 0 ≤ c) : ((c, 1) : HKey) ∈ keepK M G ↔ c < M ∧ c ∉ G := by
  unfold keepK
  rw [List.mem_map]
  constructor
  · rintro ⟨k, hk, e⟩
    obtain ⟨h1, h2⟩ := mem_keep.1 hk
    have : (k : Int) = c := by simp [oneK] at e; exact e
    subst this
    exact ⟨by omega, h2⟩
  · rintro ⟨h1, h2⟩
    have e : ((c.toNat : Nat) : Int) = c := by omega
    refine ⟨c.toNat, mem_keep.2 ⟨by omega, by rw [e]; exact h2⟩, by simp [oneK, e]⟩
theorem keep_nodup (M : Nat) (G : List Int) : (keepL M G).Nodup := (List.nodup_range).filter _
theorem keepK_nodup (M : Nat) (G : List Int) : (keepK M G).Nodup := by
  unfold keepK
  rw [List.Nodup, List.pairwise_map]
  exact (keep_nodup M G).imp fun {a b} hab e => hab (oneK_inj e)
theorem keep_erase (M : Nat) (G : List Int) (c : Int) : (keepK M G).erase (c, 1) = keepK M (G ++ [c]) := by
  rw [(keepK_nodup M G).erase_eq_filter]
  unfold keepK keepL
  rw [List.filter_map, List.filter_filter]
  congr 1
  apply List.filter_congr
  intro k _
  rw [Bool.eq_iff_iff]
  simp only [Function.comp, oneK, Bool.and_eq_true, bne_iff_ne, ne_eq, decide_eq_true_eq, List.mem_append, List.mem_singleton, not_or, Prod.mk.injEq, and_true]
  constructor
  · rintro ⟨h1, h2⟩; exact ⟨h2, h1⟩
  · rintro ⟨h1, h2⟩; exact ⟨h2, h1⟩
theorem keep_succ_in {i : Nat} {G : List Int} (h : (i : Int) ∈ G) : keepL (i + 1) G = keepL i G := by
  unfold keepL
  rw [List.range_succ, List.filter_append]
  simp [h]
theorem keep_succ_no {i : Nat} {G : List Int} (h : (i : Int) ∉ G) : keepL (i + 1) G = keepL i G ++ [i] := by
  unfold keepL
  rw [List.range_succ, List.filter_append]
  simp [h]
theorem keep_pre {i M : Nat} (G : List Int) (h : i ≤ M) : keepL i G <+: keepL M G := by
  unfold keepL
  obtain ⟨d, rfl⟩ := Nat.exists_eq_add_of_le h
  rw [List.range_add, List.filter_append]
  exact List.prefix_append _ _
theorem keep_at {i M : Nat} {G : List Int} (h : i < M) (hG : (i : Int) ∉ G) : (keepL M G)[(keepL i G).length]? = some i := by
  obtain ⟨r, hr⟩ := keep_pre G (show i + 1 ≤ M by omega)
  rw [← hr, keep_succ_no hG]
  simp
theorem keep_le {i M : Nat} (G : List Int) (h : i ≤ M) : (keepL i G).length ≤ (keepL M G).length := (keep_pre G h).length_le
theorem keep_len (M : Nat) (G : List Int) : (keepL M G).length ≤ M := by
  have := List.length_filter_le (fun k : Nat => decide ((k : Int) ∉ G)) (List.range M)
  simpa [keepL] using this
theorem keepK_len (M : Nat) (G : List Int) : (keepK M G).length = (keepL M G).length := by simp [keepK]
/-- Behind those that come again. -/
def fillK (M i : Nat) (G : List Int) : List HKey := ((goneL i G).reverse.map oneK) ++ keepK M G
theorem fill_zero (M : Nat) (G : List Int) : fillK M 0 G = keepK M G := by simp [fillK, goneL]
theorem fill_in {M i : Nat} {G : List Int} (h : (i : Int) ∈ G) : pushM (fillK M i G) (oneK i) true = fillK M (i + 1) G ∧ oneK i ∉ fillK M i G := by
  have hn : oneK i ∉ fillK M i G := by
    unfold fillK
    rw [List.mem_append, not_or]
    constructor
    · intro q
      obtain ⟨k, hk, e⟩ := List.mem_map.1 q
      have := oneK_inj e
      subst this
      simp [goneL] at hk
    · intro q
      have := (mem_keepK (by omega)).1 q
      exact this.2 h
  refine ⟨?_, hn⟩
  rw [pushM, if_neg hn, if_pos rfl]
  unfold fillK goneL
  rw [List.range_succ, List.filter_append]
  simp [h]
theorem fill_no {M i : Nat} {G : List Int} (hi : i < M) (h : (i : Int) ∉ G) : fillK M (i + 1) G = fillK M i G ∧ oneK i ∈ fillK M i G := by
  constructor
  · unfold fillK goneL
    rw [List.range_succ, List.filter_append]
    simp [h]
  · unfold fillK
    rw [List.mem_append]
    right
    exact (mem_keepK (by omega)).2 ⟨by omega, h⟩
theorem fill_len (M : Nat) (G : List Int) : (fillK M M G).length = M := by
  have h := List.length_eq_countP_add_countP (fun k : Nat => decide ((k : Int) ∈ G)) (l := List.range M)
  rw [List.length_range, List.countP_eq_length_filter, List.countP_eq_length_filter] at h
  have e : (List.range M).filter (fun a : Nat => decide ¬decide ((a : Int) ∈ G) = true) = (List.range M).filter (fun k : Nat => decide ((k : Int) ∉ G)) := by
    apply List.filter_congr
    intro k _
    simp
  rw [e] at h
  simp only [fillK, List.length_append, List.length_map, List.length_reverse, keepK, goneL, keepL]
  exact h.symm
theorem gone_get (G : List Int) (k : Int) : (goneF G k).getD (.int .i64 0) = .int .i64 (if k ∈ G then 1 else 0) := by
  unfold goneF
  split <;> rfl
theorem gone_upd (G : List Int) (c : Int) : updF (goneF G) c (some (.int .i64 1)) = goneF (G ++ [c]) := by
  funext k
  simp only [updF, goneF, List.mem_append, List.mem_singleton]
  by_cases e : k = c
  · simp [e]
  · simp [e]
end Go.Proofs.Ytefhcdnilbojkaa
