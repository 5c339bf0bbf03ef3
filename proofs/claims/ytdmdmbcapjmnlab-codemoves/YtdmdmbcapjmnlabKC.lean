/- Towards the statements of package insn (layer 7): kinds: contracts of the document's Kind, for every instruction. -/
import Derived.Test.YtdmdmbcapjmnlabKB
import Derived.Deep.DeepCutAuto
namespace Go.Proofs.Ytdmdmbcapjmnlab
open Go.ChangeShapes Go.WideShapes Go.ChangeAt Go.RowKit
set_option linter.unusedVariables false
set_option maxRecDepth 20000
set_option linter.unusedSimpArgs false

def isB (d s f i : Int) (bd bs bf bi : Bool) : Bool := (bd || decide (d = 0)) && ((bs || decide (s = 0)) && ((bf || decide (f = 0)) && ((bi || decide (i = 0)) && (decide (d < 11) && decide (s < 11)))))
/-- An instruction in memory. -/
def At5 (w : World) (b : Nat) (o d s f i : Int) : Prop := w.heap[b]? = some (.cells #[.int .u8 o, .int .u8 d, .int .u8 s, .int .i16 f, .int .i32 i] 30)
section
variable {w w' : World} {b : Nat} {o d s f i : Int}
theorem At5.gr (h : At5 w b o d s f i) (hg : Gr w w') : At5 w' b o d s f i := by
  refine (hg.below.block _ ?_).trans h
  rcases Nat.lt_or_ge b w.heap.size with h' | h'
  · exact h'
  · rw [At5, Array.getElem?_eq_none h'] at h; cases h
theorem At5.new (w : World) (o d s f i : Int) : At5 (w.alloc (.cells #[.int .u8 o, .int .u8 d, .int .u8 s, .int .i16 f, .int .i32 i] 30)) w.heap.size o d s f i := by
  show (w.heap.push _)[w.heap.size]? = _; simp
theorem cell_of {c : Array Value} {t : TypeId} {k : Nat} {v : Value} (h : w.heap[b]? = some (.cells c t)) (hv : c[k]? = some v) : w.cell? ⟨b, k, none⟩ = some v := by
  simp [World.cell?, h, hv]
theorem At5.cells (h : At5 w b o d s f i) : w.cell? ⟨b, 0, none⟩ = some (.int .u8 o) ∧ w.cell? ⟨b, 1, none⟩ = some (.int .u8 d) ∧ w.cell? ⟨b, 2, none⟩ = some (.int .u8 s) ∧ w.cell? ⟨b, 3, none⟩ = some (.int .i16 f) ∧ w.cell? ⟨b, 4, none⟩ = some (.int .i32 i) :=
  ⟨cell_of h rfl, cell_of h rfl, cell_of h rfl, cell_of h rfl, cell_of h rfl⟩
theorem At5.all (h : At5 w b o d s f i) (p : GrBy w) : p.to.cell? ⟨b, 0, none⟩ = some (.int .u8 o) ∧ p.to.cell? ⟨b, 1, none⟩ = some (.int .u8 d) ∧ p.to.cell? ⟨b, 2, none⟩ = some (.int .u8 s) ∧ p.to.cell? ⟨b, 3, none⟩ = some (.int .i16 f) ∧ p.to.cell? ⟨b, 4, none⟩ = some (.int .i32 i) := (h.gr p.gr).cells
end
theorem ex_gr {f : FuncId} {args : Array Value} {w : World} {v : Value} {c : Array Value} {t : TypeId} (h : Calls Try.prog f args w fun e w' => e = .returned v ∧ w' = w.alloc (.cells c t)) : Calls Try.prog f args w fun e w' => e = .returned v ∧ Gr w w' :=
  h.mono fun _ w' ⟨he, hw⟩ => ⟨he, hw ▸ gr1 _ _ _⟩
theorem same_gr {f : FuncId} {args : Array Value} {w : World} {v : Value} (h : Calls Try.prog f args w fun e w' => e = .returned v ∧ w' = w) : Calls Try.prog f args w fun e w' => e = .returned v ∧ Gr w w' :=
  h.mono fun _ w' ⟨he, hw⟩ => ⟨he, hw ▸ Gr.refl _⟩
end Go.Proofs.Ytdmdmbcapjmnlab
