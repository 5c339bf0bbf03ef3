/- Towards the statements of package slab (layer 12): Slots. -/
import Derived.Test.YtooblonafnlfcaaDoorSL
namespace Go.Proofs.YtooblonafnlfcaaDoor
open Go.ChangeShapes Go.WideShapes Go.ChangeAt Go.RowKit
set_option linter.unusedVariables false
set_option linter.unusedSimpArgs false
set_option maxRecDepth 20000
variable {Yo : Nat → Prop}
theorem SlF.kept {w w' : World} {B b : Nat} {room used : Int} {T : Nat → Th} {n : Nat} (h : SlF Yo w B b room used T n) (hb : Below w.heap.size w w') : SlF Yo w' B b room used T n := by
  obtain ⟨v, xs, q, hv, hx⟩ := h.rows
  have hk : ∀ (k : Nat) (o : Obj), w.heap[k]? = some o → w'.heap[k]? = some o := fun k o ho => by rw [hb.block k (heap_lt ho)]; exact ho
  refine ⟨h.bB, h.nb, h.rm, h.us, ⟨v, xs, hk _ _ q, ⟨hv.1, ?_⟩, hx⟩, h.out, fun s hh bs e => ?_, h.apart, h.off.go hb.size (hk _ _ q) (h.offr q) h.off.2.2.1⟩
  · rcases hv.2 with e | ⟨g, cap, cur, e, a1, a2, a3⟩
    · exact .inl e
    · exact .inr ⟨g, cap, cur, e, a1, hk _ _ a2, a3⟩
  · obtain ⟨a1, a2, a3⟩ := h.th s hh bs e
    exact ⟨a1, hk _ _ a2, a3⟩
theorem getT_nat (T : Nat → Th) (i : Nat) : getT T i = T i := by
  unfold getT
  rw [if_neg (by omega)]
  simp
/-- The slots that are taken, rising, of the first so many. -/
def takenL (T : Nat → Th) (i : Nat) : List Nat := (List.range i).filter fun k => (T k).isSome
def intsV (L : List Nat) : List Value := L.map fun (k : Nat) => Value.int .i64 (k : Int)
theorem info3 : (Tryd.prog.info? 3).map (fun i => (i.zero, i.size, i.bytes)) = some (some (.int .i64 0), 1, 8) := by kernel_rfl
theorem one_new (w : World) (x : Value) (t : TypeId) (g : Nat) (hg : g = w.heap.size) : ∀ (j : Nat) (u : Value), [x][j]? = some u → (w.alloc (.cells #[x] t)).cell? ((⟨g, 0, none⟩ : Addr).add j) = some u := news_new w [x] t g hg
end Go.Proofs.YtooblonafnlfcaaDoor
