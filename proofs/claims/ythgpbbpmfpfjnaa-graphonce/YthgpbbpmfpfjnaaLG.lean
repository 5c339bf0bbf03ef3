/- Towards the statements of package list (layer 15): calls of a list by what it holds; Pop. -/
import Derived.Test.YthgpbbpmfpfjnaaLF
namespace Go.Proofs.Ythgpbbpmfpfjnaa
open Go.ChangeShapes Go.WideShapes Go.ChangeAt Go.RowKit
set_option linter.unusedVariables false
set_option linter.unusedSimpArgs false
set_option maxRecDepth 20000
/-- The first one, or the last. -/
def endM (K : List HKey) (q : Bool) : Option HKey := if q then K.head? else K.getLast?
/-- A handle, or none, as a value. -/
def oV : Option HKey → Value
  | some y => .agg #[.int .i64 y.1, .int .u64 y.2]
  | none => .agg #[.int .i64 0, .int .u64 0]
def popM (K : List HKey) (q : Bool) : List HKey := match endM K q with
  | some k => K.erase k
  | none => K
def nextM (K : List HKey) (k : HKey) : Option HKey := K[K.idxOf k + 1]?
theorem Ls.ends {w : World} {B b m e : Nat} {nx pv : Nat → Nat} {ky : Nat → HKey} {N : List Nat} (h : Ls w B b m e nx pv ky N) (q : Bool) : (N = [] ∧ endM (N.map ky) q = none) ∨ ∃ x ∈ N, (if q then nx e else pv e) = x ∧ endM (N.map ky) q = some (ky x) := by
  cases hN : N with
  | nil => exact .inl ⟨rfl, by cases q <;> rfl⟩
  | cons a l =>
    right
    have hr := h.ring
    cases q with
    | true =>
      rw [hN] at hr
      exact ⟨a, by simp, by simpa using hr.1, by simp [endM]⟩
    | false =>
      have h1 := hr.back N.length e (by simp)
      rw [hN] at h1
      have h2 : (a :: l)[l.length]? = some (pv e) := by simpa using h1
      refine ⟨pv e, List.mem_of_getElem? h2, rfl, ?_⟩
      rw [endM, if_neg (by simp), List.getLast?_eq_getElem?, List.length_map, List.getElem?_map, List.length_cons, Nat.add_sub_cancel, h2]
      rfl
theorem peek_any (w : World) (B b m e : Nat) (nx pv : Nat → Nat) (ky : Nat → HKey) (N : List Nat) (h : Ls w B b m e nx pv ky N) (q : Bool) :
    Calls Try.prog 79 #[.pointer (some ⟨b, 0, none⟩), .bool q] w fun e' w' => e' = .returned (.tuple #[oV (endM (N.map ky) q), .bool (endM (N.map ky) q).isSome]) ∧ Below w.heap.size w w' := by
  rcases h.ends q with ⟨rfl, e1⟩ | ⟨x, hx, hq, e1⟩
  · rw [e1]
    exact peek_none w B b m e nx pv ky h q
  · rw [e1]
    exact peek_some w B b m e nx pv ky N h q x hx hq
end Go.Proofs.Ythgpbbpmfpfjnaa
