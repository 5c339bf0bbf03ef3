/- Towards HandleOnce: rows of handles, rests. -/
import Derived.Test.YtilohnmaaofipaaHG
namespace Go.Proofs.Ytilohnmaaofipaa
open Go.ChangeShapes Go.WideShapes Go.ChangeAt Go.RowKit
set_option linter.unusedVariables false
set_option linter.unusedSimpArgs false
set_option maxRecDepth 20000
theorem rem_any {x : Int} {n : Nat} (h0 : 0 ≤ x) (h1 : x ≤ 255) (hn : 0 < n) (hl : n ≤ 100000) : ∃ j : Nat, j < n ∧ ∀ W, (binOp .rem 3 (.int .i64 x) (.int .i64 n)).run Try.prog W = .ok (.int .i64 j) W := by
  have e : ((x % (n : Int)).toNat : Int) = x % (n : Int) := Int.toNat_of_nonneg (Int.emod_nonneg _ (by omega))
  have hlt := Int.emod_lt_of_pos x (show (0 : Int) < n by omega)
  refine ⟨(x % (n : Int)).toNat, by omega, fun W => ?_⟩
  rw [e]
  have hne : ((n : Int) == 0) = false := by simp; omega
  have hd : ¬ (n : Int) = 0 := by omega
  have ht : x.tmod n = x % n := Int.tmod_eq_emod_of_nonneg h0
  have hw : IntKind.i64.wrap (x % n) = x % n := IntWalk.i64_in _ (by have := Int.emod_nonneg x (show (n : Int) ≠ 0 by omega); omega)
  simp [go_sem, hne, hd, ht, hw]
  omega
/-- A handle of a row. -/
theorem idx34 {w : World} {B : Nat} {p : Option Addr} {A : List HKey} {c : Nat} (h : w.ownsRow B 34 2 (.slice p A.length c) A.length (hCells A)) {j : Nat} (hj : j < A.length) (hl : A.length ≤ 100000) :
    ∃ g x, A[j]? = some x ∧ g < w.heap.size ∧ (Value.slice p A.length c).ownBlock = some g ∧ w.cell? ⟨g, j * 2, none⟩ = some (.int .i64 x.1) ∧ w.cell? ⟨g, j * 2 + 1, none⟩ = some (.int .u64 x.2) ∧ ∀ W, (Instr.indexAt 27 (.slice p A.length c) (.int .i64 j)).run Try.prog W = .ok (.pointer (some ⟨g, j * 2, none⟩)) W := by
  rcases h.2 with ⟨e, e2⟩ | ⟨g, cap, cur, e, h1, h2, h3⟩
  · omega
  · cases e
    have hx := List.getElem?_eq_getElem hj
    have hc := hCells_at A j _ hx
    refine ⟨g, A[j], hx, heap_lt h2, rfl, ?_, ?_, fun W => ?_⟩
    · rw [h.cellAt _ (by omega)]; exact hc.1
    · rw [h.cellAt _ (by omega)]; exact hc.2
    · have hi2 : (j : Int) < A.length := by omega
      simp [go_sem, hj]
def cntL (L : Int → Option Nat) (A : List HKey) (k : Nat) : Nat := ((A.take k).filter fun x => L x.1 == some x.2).length
theorem cntL_succ {L : Int → Option Nat} {A : List HKey} {k : Nat} {x : HKey} (h : A[k]? = some x) : cntL L A (k + 1) = cntL L A k + if L x.1 == some x.2 then 1 else 0 := by
  unfold cntL
  rw [List.take_add_one, h, List.filter_append, List.length_append]
  congr 1
  cases hx : L x.1 == some x.2 <;> simp [hx]
theorem cntL_le (L : Int → Option Nat) (A : List HKey) (k : Nat) : cntL L A k ≤ A.length := by
  unfold cntL
  refine Nat.le_trans (List.length_filter_le _ _) ?_
  rw [List.length_take]
  omega
theorem sn_yes {L : Int → Option Nat} {k : HKey} (h : L k.1 = some k.2) : sn L k = 1 := by simp [sn, h]
theorem sn_no {L : Int → Option Nat} {k : HKey} (h : ¬ L k.1 = some k.2) : sn L k = 2 := by simp [sn, h]
theorem HM.look {w : World} {m n : Nat} {F : HKey → Option Value} (h : HM w m n F) (s : Int) (g : Nat) : (Instr.lookup 46 (.map (some m)) (.agg #[.int .i64 s, .int .u64 g]) false).run Try.prog w = .ok ((F (s, g)).getD (.int .i64 0)) w :=
  HM.look1 Try.underlying46 h (s, g) (zero3 w)
theorem HM.put' {w : World} {m n : Nat} {F : HKey → Option Value} (h : HM w m n F) (s : Int) (g : Nat) (v : Value) : ∃ w', (Instr.mapUpdate 46 (.map (some m)) (.agg #[.int .i64 s, .int .u64 g]) v).run Try.prog w = .ok () w' ∧ HM w' m (n + 1) (updH F (s, g) (some v)) ∧ w.mapTurned w' m :=
  HM.put Try.underlying46 h (k := (s, g)) trivial v
theorem HM.drewN {w : World} {m n : Nat} {F : HKey → Option Value} (h : HM w m n F) (k : Nat) : HM (w.drewN k) m n F := h
theorem Below.drewN {B : Nat} {a w : World} (h : Below B a w) (k : Nat) : Below B a (w.drewN k) := ⟨h.os, h.tape, h.output, h.size, h.block⟩
end Go.Proofs.Ytilohnmaaofipaa
