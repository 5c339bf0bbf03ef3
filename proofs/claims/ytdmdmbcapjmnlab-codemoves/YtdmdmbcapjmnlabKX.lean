/- Of what stage 7 knows of blocks: an instruction's own, two bytes. -/
import Derived.Test.YtdmdmbcapjmnlabRI
namespace Go.Proofs.Ytdmdmbcapjmnlab
open Go.ChangeShapes Go.WideShapes Go.ChangeAt Go.RowKit
set_option linter.unusedVariables false
set_option maxRecDepth 20000
set_option linter.unusedSimpArgs false
theorem At5.lt {w : World} {b : Nat} {o d s f i : Int} (h : At5 w b o d s f i) : b < w.heap.size := by
  rcases Nat.lt_or_ge b w.heap.size with h' | h'
  · exact h'
  · rw [At5, Array.getElem?_eq_none h'] at h; cases h
theorem At5.below {w w' : World} {b : Nat} {o d s f i : Int} (h : At5 w b o d s f i) (hb : Below w.heap.size w w') : At5 w' b o d s f i := (hb.block _ h.lt).trans h

/-- The slot of the region's operation j. -/
def R2 (w : World) (g : Nat) (x y : Int) : Prop := ∃ cur : Array Value, w.heap[g]? = some (.cells cur 5 (0, 0)) ∧ cur[0]? = some (.int .u8 x) ∧ cur[1]? = some (.int .u8 y)
section
variable {w : World} {g : Nat} {x y : Int}
theorem R2.c0 (h : R2 w g x y) : w.cell? ⟨g, 0, none⟩ = some (.int .u8 x) := by obtain ⟨c, h1, h2, h3⟩ := h; simp [World.cell?, h1, h2]
theorem R2.c1 (h : R2 w g x y) : w.cell? ⟨g, 1, none⟩ = some (.int .u8 y) := by obtain ⟨c, h1, h2, h3⟩ := h; simp [World.cell?, h1, h3]
end
theorem new2 (w : World) (x y : Int) : R2 (w.alloc (.cells #[.int .u8 x, .int .u8 y] 5)) w.heap.size x y := ⟨#[.int .u8 x, .int .u8 y], by show (w.heap.push _)[w.heap.size]? = _; simp, rfl, rfl⟩
end Go.Proofs.Ytdmdmbcapjmnlab
