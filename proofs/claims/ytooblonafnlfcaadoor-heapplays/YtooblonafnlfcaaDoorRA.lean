/- Towards HandlePlays: the document's table in memory; At. -/
import Derived.Test.YtooblonafnlfcaaDoorDD
import Derived.Laws.AppendOwnNone
namespace Go.Proofs.YtooblonafnlfcaaDoor.H
open Go.ChangeShapes Go.WideShapes Go.ChangeAt Go.RowKit
set_option linter.unusedVariables false
set_option linter.unusedSimpArgs false
set_option maxRecDepth 20000
/-- The document's table at block r: those that live, how many each slot had. -/
structure Rf (w : World) (B r : Nat) (X T : List HKey) (vX vT : Value) : Prop where
  cells : w.heap[r]? = some (.cells #[vX, vT] 54 (0, 0))
  rB : B ≤ r
  rowX : w.ownsRow B 34 2 vX X.length (hCells X)
  rowT : w.ownsRow B 34 2 vT T.length (hCells T)
  apart : ∀ g, vX.ownBlock = some g → vT.ownBlock ≠ some g
  lenX : X.length ≤ 1000
  lenT : T.length ≤ 1000
theorem Rf.below {w w' : World} {B r : Nat} {X T : List HKey} {vX vT : Value} (h : Rf w B r X T vX vT) (hb : Below w.heap.size w w') : Rf w' B r X T vX vT :=
  ⟨(hb.block _ (heap_lt h.cells)).trans h.cells, h.rB, row_kept h.rowX (fun g hg => hb.block _ (by obtain ⟨c, e⟩ := row_cells h.rowX hg; exact heap_lt e)), row_kept h.rowT (fun g hg => hb.block _ (by obtain ⟨c, e⟩ := row_cells h.rowT hg; exact heap_lt e)), h.apart, h.lenX, h.lenT⟩
theorem Rf.alloc {w : World} {B r : Nat} {X T : List HKey} {vX vT : Value} (h : Rf w B r X T vX vT) (o : Obj) : Rf (w.alloc o) B r X T vX vT := h.below ((Below.refl _ w).alloc (Nat.le_refl _) _)
theorem Rf.size {w : World} {B r : Nat} {X T : List HKey} {vX vT : Value} (h : Rf w B r X T vX vT) : B ≤ w.heap.size := Nat.le_trans h.rB (Nat.le_of_lt (heap_lt h.cells))
theorem Rf.drew {w : World} {B r : Nat} {X T : List HKey} {vX vT : Value} (h : Rf w B r X T vX vT) : Rf w.drew B r X T vX vT := h.below (Below.refl _ _).drew
theorem at_no (w : World) (B r : Nat) (X T : List HKey) (vX vT : Value) (h : Rf w B r X T vX vT) (s : Int) (hn : ∀ x ∈ X, x.1 ≠ s) :
    Calls Tryd.prog 60 #[.pointer (some ⟨r, 0, none⟩), .int .i64 s] w fun e w' => e = .returned (.int .i64 (-1)) ∧ w' = w := by
  have hl := h.lenX
  obtain ⟨p, c, rfl⟩ := own_shape h.rowX
  have c0 : w.cell? ⟨r, 0, none⟩ = some (.slice p X.length c) := by rw [cell_of h.cells]; rfl
  replace hn : Hid _ := hn
  go_enter Tryd.func60, Tryd.ntmps60
  go_wp2
  go_loopw [5] (fun n5 wr => ∃ j : Nat, n5 = .int .i64 j ∧ j ≤ X.length ∧ wr = w) (fun n5 _ => X.length - (valOf n5).toNat)
  case atStart => exact ⟨0, rfl, by omega, rfl⟩
  case round =>
    obtain ⟨j, rfl, hj, hw⟩ := hrel
    rw [hw]; clear hw
    by_cases hin : j < X.length
    · have d : decide ((j : Int) < X.length) = true := by simp; omega
      have e9 : IntKind.i64.wrap ((j : Int) + 1) = (j : Int) + 1 := IntWalk.i64_in _ (by omega)
      obtain ⟨g, x, hx, hgl, hgo, hc0, hc1, hai⟩ := idx34 h.rowX hin (by omega)
      have hne := hn.out x (List.mem_of_getElem? hx)
      obtain ⟨xs, xg⟩ := x
      simp only at hc0 hc1 hne
      have q : (xs == s) = false := by simp [hne]
      go_wp2
      exact ⟨⟨j + 1, by simp, by omega, by trivial⟩, by simp [valOf]; omega⟩
    · have d : decide ((j : Int) < X.length) = false := by simp; omega
      go_wp2
      all_goals go_returns
      exact ⟨rfl, rfl⟩
theorem at_yes (w : World) (B r : Nat) (X T : List HKey) (vX vT : Value) (h : Rf w B r X T vX vT) (s : Int) (k g0 : Nat) (hk : X[k]? = some (s, g0)) (hd : ∀ j x, j < k → X[j]? = some x → x.1 ≠ s) :
    Calls Tryd.prog 60 #[.pointer (some ⟨r, 0, none⟩), .int .i64 s] w fun e w' => e = .returned (.int .i64 k) ∧ w' = w := by
  have hl := h.lenX
  have hkl := (List.getElem?_eq_some_iff.1 hk).1
  obtain ⟨p, c, rfl⟩ := own_shape h.rowX
  have c0 : w.cell? ⟨r, 0, none⟩ = some (.slice p X.length c) := by rw [cell_of h.cells]; rfl
  replace hd : Hid _ := hd
  replace hk : Hid _ := hk
  go_enter Tryd.func60, Tryd.ntmps60
  go_wp2
  go_loopw [5] (fun n5 wr => ∃ j : Nat, n5 = .int .i64 j ∧ j ≤ k ∧ wr = w) (fun n5 _ => X.length - (valOf n5).toNat)
  case atStart => exact ⟨0, rfl, by omega, rfl⟩
  case round =>
    obtain ⟨j, rfl, hj, hw⟩ := hrel
    rw [hw]; clear hw
    have hin : j < X.length := by omega
    have d : decide ((j : Int) < X.length) = true := by simp; omega
    have e9 : IntKind.i64.wrap ((j : Int) + 1) = (j : Int) + 1 := IntWalk.i64_in _ (by omega)
    obtain ⟨g, x, hx, hgl, hgo, hc0, hc1, hai⟩ := idx34 h.rowX hin (by omega)
    by_cases hjk : j = k
    · have hx2 := hk.out
      rw [← hjk, hx] at hx2
      obtain rfl := Option.some.inj hx2
      simp only at hc0 hc1
      have q : (s == s) = true := by simp
      replace hjk : Hid _ := hjk
      go_wp2
      all_goals go_returns
      exact ⟨by rw [← hjk.out]; rfl, rfl⟩
    · have hne := hd.out j x (by omega) hx
      obtain ⟨xs, xg⟩ := x
      simp only at hc0 hc1 hne
      have q : (xs == s) = false := by simp [hne]
      go_wp2
      exact ⟨⟨j + 1, by simp, by omega, by trivial⟩, by simp [valOf]; omega⟩
end Go.Proofs.YtooblonafnlfcaaDoor.H
