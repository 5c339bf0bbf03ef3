/- Towards the statements of package graph (layer 17): a row of handles that grows at either end. -/
import Derived.Test.YthgpbbpmfpfjnaaGW
import Derived.Maps.AppendAt
import Derived.Lib.AppendZeros
namespace Go.Proofs.Ythgpbbpmfpfjnaa
open Go.ChangeShapes Go.WideShapes Go.ChangeAt Go.RowKit
set_option linter.unusedVariables false
set_option linter.unusedSimpArgs false
set_option maxRecDepth 20000
theorem row_one (W : World) (x : HKey) : (W.alloc (.cells #[.int .i64 x.1, .int .u64 x.2] 31)).ownsRow W.heap.size 31 2 (.slice (some ⟨W.heap.size, 0, none⟩) 1 1) 1 [.int .i64 x.1, .int .u64 x.2] :=
  ⟨rfl, .inr ⟨W.heap.size, 1, #[.int .i64 x.1, .int .u64 x.2], rfl, Nat.le_refl _, heap_alloc_new W _, Nat.le_refl _, by simp [maxLen], rfl, rfl⟩⟩
theorem want_app (W : World) (B : Nat) (v : Value) (X : List HKey) (hrow : W.ownsRow B 31 2 v X.length (hCells X)) (hB : B ≤ W.heap.size) (hl : X.length ≤ 1000) (hv : X = [] → v = .slice none 0 0) (x : HKey) (fr : Bool) :
    ∃ v' w', (Builtin.append_ #[40, 40] 40 #[if fr then .slice (some ⟨W.heap.size, 0, none⟩) 1 1 else v, if fr then v else .slice (some ⟨W.heap.size, 0, none⟩) 1 1]).run Try.prog (W.alloc (.cells #[.int .i64 x.1, .int .u64 x.2] 31)) = .ok v' w' ∧
      w'.ownsRow B 31 2 v' (X.length + 1) (hCells (if fr then x :: X else X ++ [x])) ∧ (∀ k, k < W.heap.size → some k ≠ v.ownBlock → w'.heap[k]? = W.heap[k]?) ∧ Below B W w' ∧ (v'.ownBlock = v.ownBlock ∨ ∃ k, v'.ownBlock = some k ∧ W.heap.size ≤ k) := by
  obtain ⟨i34, hi34, hz0, hz1, hz2⟩ := info_parts info34
  have hb1 := (Below.refl B W).alloc hB (.cells #[.int .i64 x.1, .int .u64 x.2] 31)
  have s1 : (W.alloc (.cells #[.int .i64 x.1, .int .u64 x.2] 31)).heap.size = W.heap.size + 1 := by simp
  have hk1 : ∀ k, k < W.heap.size → (W.alloc (.cells #[.int .i64 x.1, .int .u64 x.2] 31)).heap[k]? = W.heap[k]? := fun k hk => Below.heap_alloc _ _ _ hk
  have hr1 : (W.alloc (.cells #[.int .i64 x.1, .int .u64 x.2] 31)).ownsRow B 31 2 v X.length (hCells X) := row_kept hrow fun g hg => hk1 g (hrow.lt g hg).2
  cases fr with
  | false =>
    obtain ⟨v', w', hr, h2, h3, h4, h5⟩ := run_append_own_at (P := Try.prog) (w := W.alloc (.cells #[.int .i64 x.1, .int .u64 x.2] 31)) B 40 40 31 i34 (.agg #[.int .i64 0, .int .u64 0]) 2 16 Try.underlying40 hi34 hz0 hz1 hz2 rfl (by decide) v X.length (hCells X) hr1 ⟨W.heap.size, 0, none⟩ 1 1 [.int .i64 x.1, .int .u64 x.2] rfl (news_new _ _ _ _ rfl) (by simp [Value.oneCell']) (by simp [maxLen]; omega) (by omega) (by omega)
    refine ⟨v', w', hr, ?_, ?_, ?_, ?_⟩
    · simp only [Bool.false_eq_true, if_false]
      rw [hCells_app]
      exact h2
    · intro k hk hn
      exact (h3.block k (by omega) hn).trans (hk1 k hk)
    · exact hb1.grown h3 (by omega) (fun k e => (hr1.lt k e).1)
    · rcases h5 with e | e
      · exact .inl e
      · exact .inr ⟨_, e, by omega⟩
  | true =>
    have h1 := row_one W x
    by_cases hX : X = []
    · subst hX
      obtain rfl := hv rfl
      refine ⟨_, _, run_append_owned_none (P := Try.prog) _ W.heap.size 40 40 31 i34 2 Try.underlying40 hi34 _ 1 _ h1, ?_, ?_, hb1, .inr ⟨_, rfl, Nat.le_refl _⟩⟩
      · exact row_base h1 hB
      · intro k hk _; exact hk1 k hk
    · obtain ⟨g, cap, rfl, hc⟩ := some_shape hr1 (List.length_pos_iff.2 hX)
      have hn := news_row hr1 0 X.length (by omega)
      rw [List.drop_zero, List.take_length] at hn
      obtain ⟨v', w', hr, h2, h3, h4, h5⟩ := run_append_own_at (P := Try.prog) (w := W.alloc (.cells #[.int .i64 x.1, .int .u64 x.2] 31)) W.heap.size 40 40 31 i34 (.agg #[.int .i64 0, .int .u64 0]) 2 16 Try.underlying40 hi34 hz0 hz1 hz2 rfl (by decide) (.slice (some ⟨W.heap.size, 0, none⟩) 1 1) 1 _ h1 ⟨g, 0, none⟩ X.length cap (hCells X) (by rw [hCells_len]) hn (hCells_one _) (by simp [maxLen]; omega) (by omega) (by omega)
      refine ⟨v', w', hr, ?_, ?_, ?_, ?_⟩
      · rw [Nat.add_comm]
        exact row_base h2 hB
      · intro k hk _
        exact (h3.block k (by omega) (by simp [Value.ownBlock]; omega)).trans (hk1 k hk)
      · exact hb1.grown h3 (by omega) (fun k e => by cases e; exact hB)
      · rcases h5 with e | e
        · exact .inr ⟨_, e, Nat.le_refl _⟩
        · exact .inr ⟨_, e, by omega⟩
theorem take_one {α : Type} {l : List α} {k : Nat} {x : α} (h : l[k]? = some x) : l.take k ++ [x] = l.take (k + 1) := by
  obtain ⟨hk, rfl⟩ := List.getElem?_eq_some_iff.1 h
  rw [List.take_succ_eq_append_getElem hk]
theorem take_nd {l : List Nat} (hn : l.Nodup) {k x : Nat} (h : l[k]? = some x) : x ∉ l.take k := by
  intro hm
  obtain ⟨i, hi⟩ := List.getElem?_of_mem hm
  rw [List.getElem?_take] at hi
  split at hi
  · have := (List.getElem?_inj (i := i) (j := k) (List.getElem?_eq_some_iff.1 hi).1 hn).1 (hi.trans h.symm)
    omega
  · cases hi
end Go.Proofs.Ythgpbbpmfpfjnaa
