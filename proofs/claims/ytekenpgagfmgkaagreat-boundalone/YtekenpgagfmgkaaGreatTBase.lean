/- Towards the statements of package tnum (layer 3): a world that has grown out of another one, as a relation, and as a class for regions of open order; rules for numbers of 64 bits as bit vectors. -/
import Derived.Test.YtekenpgagfmgkaaGreatTMath
import Derived.ProofKit
import Derived.OpenShut
import Derived.BigQuiet
import Derived.Deep.QuietTactic
import Derived.Handy
import Derived.Laws.ShiftsVarLaws
namespace Go.Proofs.YtekenpgagfmgkaaGreat.Tn
open Go.ChangeShapes Go.WideShapes Go.ChangeAt Go.RowKit
set_option linter.unusedVariables false

structure Gr (w w' : World) : Prop where
  below : Below w.heap.size w w'
  grown : Grown w w'
theorem Gr.refl (w : World) : Gr w w := ⟨Below.refl _ _, Grown.refl _⟩
theorem Gr.trans {a b c : World} (h : Gr a b) (k : Gr b c) : Gr a c :=
  ⟨h.below.trans (k.below.mono h.below.size), ⟨World.keptBut_trans h.grown.1 k.grown.1, fun x => (k.grown.2.1 x).trans (h.grown.2.1 x), Nat.le_trans h.grown.2.2 k.grown.2.2⟩⟩

/-- A world that has grown out of w, as one letter: for regions whose order is open and whose calls make memory. -/
structure GrBy (w : World) where
  to : World
  gr : Gr w to

theorem wp_region_gr {P : Program} {id : Nat} {Q : Exit → Act → World → Prop} {a : Act} {w : World} {l : List Oper} (hm : P.follows .mixedOrders = true) (hB : Region.lexB .any l.toArray = true)
    (h : wpQuiet P l.toArray (fun w' => ∃ p : GrBy w, w' = p.to) (fun a' => ∀ w', (∃ p : GrBy w, w' = p.to) → Q .normal a' w') l a) : (Code.region id l.toArray true).wp P Q a w :=
  wp_region_quiet (C := fun w' => ∃ p : GrBy w, w' = p.to) hm hB ⟨⟨w.drew, ⟨by go_grown, by go_grown⟩⟩, rfl⟩ (by simpa using h)

theorem calls_gr {P : Program} {f : FuncId} {args : Array Value} {w : World} {p : GrBy w} {v : Value} (h : Calls P f args p.to fun e w' => e = .returned v ∧ Gr p.to w') :
    Calls P f args p.to fun e w' => e = .returned v ∧ ∃ q : GrBy w, w' = q.to :=
  h.mono fun _ w' ⟨he, hg⟩ => ⟨he, ⟨w', p.gr.trans hg⟩, rfl⟩
theorem calls_same {P : Program} {f : FuncId} {args : Array Value} {w : World} {p : GrBy w} {v : Value} (h : Calls P f args p.to fun e w' => e = .returned v ∧ w' = p.to) :
    Calls P f args p.to fun e w' => e = .returned v ∧ ∃ q : GrBy w, w' = q.to :=
  h.mono fun _ w' ⟨he, hg⟩ => ⟨he, p, hg⟩

end Go.Proofs.YtekenpgagfmgkaaGreat.Tn
