/- Towards the statements of package slab (layer 12): a slab in memory. -/
import Derived.Test.YtooblonafnlfcaaDoorSA
import Derived.Deep.AppendLies
import Derived.OwnWalk
import Derived.Laws.OwnMore
namespace Go.Proofs.YtooblonafnlfcaaDoor
open Go.ChangeShapes Go.WideShapes Go.ChangeAt Go.RowKit
set_option linter.unusedVariables false
set_option linter.unusedSimpArgs false
set_option maxRecDepth 20000
variable {Yo : Nat → Prop}
/-- What lies at a slot: nothing, or bytes in a block. -/
abbrev Th := Option (Nat × List Int)
def thV : Th → Value
  | none => .slice none 0 0
  | some (h, bs) => .slice (some ⟨h, 0, none⟩) bs.length bs.length
/-- How many of a row are taken. -/
def cnt (T : Nat → Th) (i : Nat) : Nat := ((List.range 64).filter fun j => (T (64 * i + j)).isSome).length
structure RowsOk (xs : List Value) (T : Nat → Th) (n : Nat) : Prop where
  len : xs.length = n * 65
  th : ∀ i j, i < n → j < 64 → xs[i * 65 + 1 + j]? = some (thV (T (64 * i + j)))
  ct : ∀ i, i < n → xs[i * 65]? = some (.int .i64 (cnt T i))
def byV (bs : List Int) : Array Value := (bs.map fun x => Value.int .u8 x).toArray
/-- A slab's own blocks are none of Yo's, which are there already. -/
def Off (Yo : Nat → Prop) (w : World) (b : Nat) (T : Nat → Th) : Prop :=
  (∀ k, Yo k → k < w.heap.size) ∧ ¬ Yo b ∧ (∀ s h bs, T s = some (h, bs) → ¬ Yo h) ∧ ∀ cs z v, w.heap[b]? = some (.cells cs 100 z) → cs[3]? = some v → ∀ g, v.ownBlock = some g → ¬ Yo g
theorem Off.go {w w' : World} {b : Nat} {T T' : Nat → Th} (h : Off Yo w b T) (hs : w.heap.size ≤ w'.heap.size) {a0 a1 a2 v : Value} (hb : w'.heap[b]? = some (.cells #[a0, a1, a2, v] 100 (0, 0))) (hv : ∀ g, v.ownBlock = some g → ¬ Yo g) (hT : ∀ s h bs, T' s = some (h, bs) → ¬ Yo h) : Off Yo w' b T' :=
  ⟨fun k hk => Nat.lt_of_lt_of_le (h.1 k hk) hs, h.2.1, hT, fun cs z u e e3 g hg => by
    rw [hb] at e
    cases e
    simp at e3
    subst e3
    exact hv g hg⟩
structure SlF (Yo : Nat → Prop) (w : World) (B b : Nat) (room used : Int) (T : Nat → Th) (n : Nat) : Prop where
  bB : B ≤ b
  nb : n ≤ 100000
  rm : 0 ≤ room ∧ room ≤ 65536
  us : 0 ≤ used ∧ used ≤ room
  rows : ∃ v xs, w.heap[b]? = some (.cells #[.bool true, .int .i64 room, .int .i64 used, v] 100 (0, 0)) ∧ w.ownsRow B 124 65 v n xs ∧ RowsOk xs T n
  out : ∀ s, 64 * n ≤ s → T s = none
  th : ∀ s h bs, T s = some (h, bs) → B ≤ h ∧ w.heap[h]? = some (.cells (byV bs) 5 (0, 0)) ∧ 1 ≤ bs.length ∧ bs.length ≤ 128 ∧ ∀ x ∈ bs, 0 ≤ x ∧ x ≤ 255
  apart : ∀ s t h bs cs, T s = some (h, bs) → T t = some (h, cs) → s = t
  off : Off Yo w b T
theorem SlF.offr {w : World} {B b : Nat} {room used : Int} {T : Nat → Th} {n : Nat} (h : SlF Yo w B b room used T n) {a0 a1 a2 v : Value} (hb : w.heap[b]? = some (.cells #[a0, a1, a2, v] 100 (0, 0))) (g : Nat) (hg : v.ownBlock = some g) : ¬ Yo g := h.off.2.2.2 _ _ v hb rfl g hg
def getT (T : Nat → Th) (s : Int) : Th := if s < 0 then none else T s.toNat
theorem cell_of {w : World} {b : Nat} {cs : Array Value} {t : TypeId} (h : w.heap[b]? = some (.cells cs t (0, 0))) (k : Nat) : w.cell? ⟨b, k, none⟩ = cs[k]? := cell_of_row w b k cs t (0, 0) h
theorem froz_of {w : World} {b : Nat} {cs : Array Value} {t : TypeId} (h : w.heap[b]? = some (.cells cs t (0, 0))) (k : Nat) : w.frozen? ⟨b, k, none⟩ = false := by
  simp [World.frozen?, h]
theorem made_yes (w : World) (b : Nat) (h0 : w.cell? ⟨b, 0, none⟩ = some (.bool true)) : Calls Tryd.prog 54 #[.pointer (some ⟨b, 0, none⟩)] w fun e w' => e = .returned (.bool true) ∧ w' = w := by
  go_enter Tryd.func54, Tryd.ntmps54
  go_wp2
  all_goals go_returns
  all_goals exact ⟨rfl, rfl⟩
theorem thing_any (w : World) (B b : Nat) (room used : Int) (T : Nat → Th) (n : Nat) (h : SlF Yo w B b room used T n) (s : Int) (hs : I64 s) :
    Calls Tryd.prog 78 #[.pointer (some ⟨b, 0, none⟩), .int .i64 s] w fun e w' => e = .returned (thV (getT T s)) ∧ w' = w := by
  obtain ⟨v, xs, hb, hv, hx⟩ := h.rows
  have hn := h.nb
  have c3 : w.cell? ⟨b, 3, none⟩ = some v := by rw [cell_of hb]; rfl
  obtain ⟨hs1, hs2⟩ := hs
  have hw : IntKind.i64.wrap ((n : Int) * 64) = (n : Int) * 64 := IntWalk.i64_in _ (by omega)
  have hlen : ∃ p c, v = .slice p n c := by
    rcases hv.2 with ⟨e, e2⟩ | ⟨g, cap, cur, e, _⟩
    · subst e2; exact ⟨_, _, e⟩
    · exact ⟨_, _, e⟩
  by_cases k0 : s < 0
  · obtain ⟨p, c, rfl⟩ := hlen
    rw [show getT T s = none by simp [getT, k0]]
    go_enter Tryd.func78, Tryd.ntmps78
    go_wp2
    all_goals go_returns
    all_goals exact ⟨rfl, rfl⟩
  by_cases k1 : (n : Int) * 64 ≤ s
  · obtain ⟨p, c, rfl⟩ := hlen
    rw [show getT T s = none by simp [getT, k0]; exact h.out _ (by omega)]
    go_enter Tryd.func78, Tryd.ntmps78
    go_wp2
    all_goals go_returns
    all_goals exact ⟨rfl, rfl⟩
  rcases hv.2 with ⟨e, e2⟩ | ⟨g, cap, cur, e, hg1, hg2, hg3, hg4, hg5, hg6⟩
  · omega
  subst e
  clear hlen
  obtain ⟨k, rfl⟩ : ∃ k : Nat, s = k := ⟨s.toNat, by omega⟩
  have hc : w.cell? ⟨g, k / 64 * 65 + 1 + k % 64, none⟩ = some (thV (getT T k)) := by
    rw [hv.cellAt _ (by omega), hx.th (k / 64) (k % 64) (by omega) (by omega)]
    rw [Nat.div_add_mod k 64, show getT T k = T k by simp only [getT]; rw [if_neg k0]; simp]
  generalize thV (getT T k) = tv at hc ⊢
  go_enter Tryd.func78, Tryd.ntmps78
  go_wp2
  all_goals go_returns
  all_goals exact ⟨rfl, rfl⟩
end Go.Proofs.YtooblonafnlfcaaDoor
