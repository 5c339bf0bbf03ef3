/- Towards HeapPlays: the document's objects in memory. -/
import Derived.Test.YtooblonafnlfcaaDoorDF
import Derived.Test.YtooblonafnlfcaaDoorRF
namespace Go.Proofs.YtooblonafnlfcaaDoor
open Go.ChangeShapes Go.WideShapes Go.ChangeAt Go.RowKit
set_option linter.unusedVariables false
set_option linter.unusedSimpArgs false
set_option maxRecDepth 20000
/-- An object of the document's heap: its handle, its kind, its count. -/
structure Do where
  s : Int
  g : Nat
  k : Int
  c : Int
def oCells : List Do → List Value
  | [] => []
  | x :: l => .int .i64 x.s :: .int .u64 x.g :: .int .i64 x.k :: .int .i64 x.c :: oCells l
theorem oCells_len : ∀ l : List Do, (oCells l).length = l.length * 4
  | [] => rfl
  | _ :: l => by simp only [oCells, List.length_cons, oCells_len l]; omega
theorem oCells_app : ∀ l m : List Do, oCells (l ++ m) = oCells l ++ oCells m
  | [], _ => rfl
  | _ :: l, m => by simp only [oCells, List.cons_append, oCells_app l m]
theorem oCells_one : ∀ l : List Do, ∀ u ∈ oCells l, u.oneCell' = true
  | [], u, h => by simp [oCells] at h
  | x :: l, u, h => by
    simp only [oCells, List.mem_cons] at h
    rcases h with rfl | rfl | rfl | rfl | h
    · rfl
    · rfl
    · rfl
    · rfl
    · exact oCells_one l u h
theorem oCells_at : ∀ (l : List Do) (j : Nat) (x : Do), l[j]? = some x → (oCells l)[j * 4]? = some (.int .i64 x.s) ∧ (oCells l)[j * 4 + 1]? = some (.int .u64 x.g) ∧ (oCells l)[j * 4 + 2]? = some (.int .i64 x.k) ∧ (oCells l)[j * 4 + 3]? = some (.int .i64 x.c)
  | [], j, x, h => by simp at h
  | y :: l, 0, x, h => by simp at h; subst h; exact ⟨rfl, rfl, rfl, rfl⟩
  | y :: l, j + 1, x, h => by
    have := oCells_at l j x (by simpa using h)
    rw [show (j + 1) * 4 = j * 4 + 1 + 1 + 1 + 1 by omega]
    simpa [oCells] using this
theorem info45 : (Tryd.prog.info? 45).map (fun i => (i.zero, i.size, i.bytes)) = some (some (.agg #[.int .i64 0, .int .u64 0, .int .i64 0, .int .i64 0]), 4, 32) := by kernel_rfl
/-- An object of a row. -/
theorem idx45 {w : World} {B : Nat} {p : Option Addr} {S : List Do} {c : Nat} (h : w.ownsRow B 45 4 (.slice p S.length c) S.length (oCells S)) {j : Nat} (hj : j < S.length) (hl : S.length ≤ 100000) :
    ∃ g x, S[j]? = some x ∧ g < w.heap.size ∧ (Value.slice p S.length c).ownBlock = some g ∧ w.cell? ⟨g, j * 4, none⟩ = some (.int .i64 x.s) ∧ w.cell? ⟨g, j * 4 + 1, none⟩ = some (.int .u64 x.g) ∧ w.cell? ⟨g, j * 4 + 2, none⟩ = some (.int .i64 x.k) ∧ w.cell? ⟨g, j * 4 + 3, none⟩ = some (.int .i64 x.c) ∧
      ∀ W, (Instr.indexAt 48 (.slice p S.length c) (.int .i64 j)).run Tryd.prog W = .ok (.pointer (some ⟨g, j * 4, none⟩)) W := by
  rcases h.2 with ⟨e, e2⟩ | ⟨g, cap, cur, e, h1, h2, h3⟩
  · omega
  · cases e
    have hx := List.getElem?_eq_getElem hj
    have hc := oCells_at S j _ hx
    refine ⟨g, S[j], hx, heap_lt h2, rfl, ?_, ?_, ?_, ?_, fun W => ?_⟩
    · rw [h.cellAt _ (by omega)]; exact hc.1
    · rw [h.cellAt _ (by omega)]; exact hc.2.1
    · rw [h.cellAt _ (by omega)]; exact hc.2.2.1
    · rw [h.cellAt _ (by omega)]; exact hc.2.2.2
    · have hi2 : (j : Int) < S.length := by omega
      simp [go_sem, hj]
end Go.Proofs.YtooblonafnlfcaaDoor
