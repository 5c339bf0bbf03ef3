/- Towards the statements of package span (layer 4): a world that has grown out of another one, as a relation, and as a class for regions of open order; a block of two cells in a world of which else little is known. Towards the statements of package span (layer 4): contracts of the small functions on rows, and of the closures. Towards the statements of package span (layer 4): contracts of the closures: products, quotients, shifts; numbers with a sign. Towards the statements of package span (layer 4): what comes at both ends of rows, asked of each closure: the generic functions ends, straight, crossed. Towards the statements of package span (layer 4): the generic functions straight and crossed, asked of each closure. Towards the statements of package span (layer 4): sums, differences, products and shifts, of spans and of reaches. Towards the statements of package span (layer 4): which numbers rows, spans and reaches have; the small functions of the document. -/
import Derived.Test.YtcbcijibgpaipaaGreatRows
import Derived.WalkKit
import Derived.WalkSpells
import Derived.ProofKit
import Derived.OpenShut
import Derived.BigQuiet
import Derived.Deep.QuietTactic
import Derived.Deep.RegionHeld3
import Derived.Deep.RegionWith
import Derived.Handy
import Derived.Laws.ShiftsVarLaws
import Derived.Laws.BitsAllLaws
import Derived.Laws.EntriesVeiled
import Derived.Laws.Externs
import Derived.Shelf.Bits.Mul64
import Derived.Lib.Mul64
section
namespace Go.Proofs.YtcbcijibgpaipaaGreat
open Go.ChangeShapes Go.WideShapes Go.ChangeAt Go.RowKit
set_option linter.unusedVariables false

theorem nl {a b c : Nat} (h : a < b) (e : b = c) : a ≠ c := Nat.ne_of_lt (Nat.lt_of_lt_of_le h (Nat.le_of_eq e))
theorem zs {α : Type _} (l : List α) (i : Nat) (a : α) : l.toArray.setIfInBounds i a = (l.set i a).toArray := List.setIfInBounds_toArray ..
theorem z0 {α : Type _} {x : α} {xs : List α} {a : α} : (x :: xs).set 0 a = a :: xs := rfl
theorem z1 {α : Type _} {x : α} {xs : List α} {i : Nat} {a : α} : (x :: xs).set (i + 1) a = x :: xs.set i a := rfl
structure Gr (w w' : World) : Prop where
  below : Below w.heap.size w w'
  grown : Grown w w'
theorem Gr.refl (w : World) : Gr w w := ⟨Below.refl _ _, Grown.refl _⟩
theorem Gr.trans {a b c : World} (h : Gr a b) (k : Gr b c) : Gr a c :=
  ⟨h.below.trans (k.below.mono h.below.size), ⟨World.keptBut_trans h.grown.1 k.grown.1, fun x => (k.grown.2.1 x).trans (h.grown.2.1 x), Nat.le_trans h.grown.2.2 k.grown.2.2⟩⟩

/-- A world that has grown out of w, as one letter: for regions whose order is open and whose calls make memory. -/
structure GrBy (w : World) where
  to : World
  gr : Gr w to

theorem wp_region_gr {P : Program} {id : Nat} {Q : Exit → Act → World → Prop} {a : Act} {w : World} {l : List Oper} (hm : P.follows .mixedOrders = true) (hB : Region.lexB .any l.toArray = true)
    (h : wpQuiet P l.toArray (fun w' => ∃ p : GrBy w, w' = p.to) (fun a' => ∀ w', (∃ p : GrBy w, w' = p.to) → Q .normal a' w') l a) : (Code.region id l.toArray true).wp P Q a w :=
  wp_region_quiet (C := fun w' => ∃ p : GrBy w, w' = p.to) hm hB ⟨⟨w.drew, ⟨by go_grown, by go_grown⟩⟩, rfl⟩ (by simpa using h)
theorem calls_gr {P : Program} {f : FuncId} {args : Array Value} {w : World} {p : GrBy w} {v : Value} (h : Calls P f args p.to fun e w' => e = .returned v ∧ Gr p.to w') :
    Calls P f args p.to fun e w' => e = .returned v ∧ ∃ q : GrBy w, w' = q.to :=
  h.mono fun _ w' ⟨he, hg⟩ => ⟨he, ⟨w', p.gr.trans hg⟩, rfl⟩
/-- Block b holds the two values x, y, of the type t. -/
def At (w : World) (b : Nat) (x y : Value) (t : TypeId) : Prop := w.heap[b]? = some (.cells #[x, y] t)
section
variable {w w' : World} {b : Nat} {x y : Value} {t : TypeId}
theorem At.c0 (h : At w b x y t) : w.cell? ⟨b, 0, none⟩ = some x := by simp [World.cell?, show w.heap[b]? = _ from h]
theorem At.c1 (h : At w b x y t) : w.cell? ⟨b, 1, none⟩ = some y := by simp [World.cell?, show w.heap[b]? = _ from h]
theorem At.f0 (h : At w b x y t) (o : Nat) : w.frozen? ⟨b, o, none⟩ = false := by simp [World.frozen?, show w.heap[b]? = _ from h]
theorem At.lt (h : At w b x y t) : b < w.heap.size := (Array.getElem?_eq_some_iff.1 h).1
theorem At.gr (h : At w b x y t) (g : Gr w w') : At w' b x y t := (g.below.block b h.lt).trans h
theorem At.alloc (h : At w b x y t) (o : Obj) : At (w.alloc o) b x y t := (Below.heap_alloc w o b h.lt).trans h
theorem At.drew (h : At w b x y t) : At w.drew b x y t := h
theorem At.newb (w : World) {b : Nat} (hb : b = w.heap.size) (x y : Value) (t : TypeId) : At (w.alloc (.cells #[x, y] t)) b x y t := by
  subst hb
  show (w.heap.push _)[w.heap.size]? = _
  simp
theorem At.other (h : At w b x y t) {b' o : Nat} (hb : b ≠ b') (u : Value) : At (w.setCell ⟨b', o, none⟩ u) b x y t := (Below.heap_setCell w ⟨b', o, none⟩ u b hb).trans h
theorem At.set (h : At w b x y t) (x' y' : Value) : At ((w.setCell ⟨b, 0, none⟩ x').setCell ⟨b, 1, none⟩ y') b x' y' t := by
  obtain ⟨hlt, hk⟩ := Array.getElem?_eq_some_iff.1 h
  have e1 : (w.setCell ⟨b, 0, none⟩ x').heap[b]? = some (.cells #[x', y] t) := by
    show (w.heap.modify b _)[b]? = _
    rw [Array.getElem?_eq_getElem (by rw [Array.size_modify]; exact hlt), Array.getElem_modify_self, hk]
    rfl
  obtain ⟨hlt', hk'⟩ := Array.getElem?_eq_some_iff.1 e1
  show ((w.setCell ⟨b, 0, none⟩ x').heap.modify b _)[b]? = _
  rw [Array.getElem?_eq_getElem (by rw [Array.size_modify]; exact hlt'), Array.getElem_modify_self, hk']
  rfl
end
theorem frozen_set (w : World) (a p : Addr) (u : Value) : (w.setCell a u).frozen? p = w.frozen? p := by
  by_cases h : p.block = a.block
  · simp only [World.frozen?, World.setCell, Array.getElem?_modify]
    rw [if_pos h.symm]
    cases w.heap[p.block]? with
    | none => rfl
    | some o => cases o <;> rfl
  · exact World.frozen?_of_block (Below.heap_setCell w a u p.block h)
theorem Gr.set {w W : World} (h : Gr w W) {b o : Nat} (ha : w.heap.size ≤ b) (u : Value) : Gr w (W.setCell ⟨b, o, none⟩ u) :=
  have hb : Below w.heap.size w (W.setCell ⟨b, o, none⟩ u) := h.below.setCell ha u
  ⟨hb, hb.frame _, fun p => (frozen_set W _ p u).trans (h.grown.2.1 p), hb.size⟩
theorem Gr.alloc {w W : World} (h : Gr w W) (c : Array Value) (t : TypeId) : Gr w (W.alloc (.cells c t)) :=
  h.trans ⟨by go_grown, by go_grown⟩
theorem Gr.drew {w W : World} (h : Gr w W) : Gr w W.drew := h.trans ⟨by go_grown, by go_grown⟩
theorem by_of {W w' : World} {p : GrBy W} (h : Gr p.to w') : ∃ q : GrBy W, w' = q.to := ⟨⟨w', p.gr.trans h⟩, rfl⟩

theorem cell_al {w : World} {a : Addr} {v : Value} {o : Obj} (h : w.cell? a = some v) : (w.alloc o).cell? a = some v := by
  rw [World.cell?_alloc_some _ _ _ (by rw [h]; rfl), h]
theorem cell_gr {w w' : World} {a : Addr} {v : Value} (g : Gr w w') (h : w.cell? a = some v) : w'.cell? a = some v := by
  rw [← h]
  exact (World.cell?_of_block (g.below.block a.block (World.block_lt_of_cell? w a h)))
theorem cell_dr {w : World} {a : Addr} {v : Value} (h : w.cell? a = some v) : w.drew.cell? a = some v := h

/-- A number without a sign; one with a sign. -/
def InU (x : Int) : Prop := 0 ≤ x ∧ x ≤ 18446744073709551615
def InS (x : Int) : Prop := -9223372036854775808 ≤ x ∧ x ≤ 9223372036854775807
theorem bd_u64 {a : Int} (h : (Lit.int .u64 a).wf = true) : InU a := by
  unfold InU
  simpa [Lit.wf, IntKind.min, IntKind.max, IntKind.signed, IntKind.bits] using h
theorem wrap_u (x : Int) : InU (IntKind.u64.wrap x) := by
  rw [IntKind.wrap_u64]; unfold InU; omega
theorem wrap_inU {x : Int} (h : InU x) : IntKind.u64.wrap x = x := by
  unfold InU at h; rw [IntKind.wrap_u64]; omega
end Go.Proofs.YtcbcijibgpaipaaGreat
end
section
namespace Go.Proofs.YtcbcijibgpaipaaGreat
open Go.ChangeShapes Go.WideShapes Go.ChangeAt Go.RowKit
set_option linter.unusedVariables false
set_option maxRecDepth 20000

theorem empty_u (l h : Int) (w : World) : Calls Tryz.prog 121 #[.agg #[.int .u64 l, .int .u64 h]] w fun e w' => e = .returned (.bool (decide (h < l))) ∧ w' = w.alloc (.cells #[.int .u64 l, .int .u64 h] 130) := by
  go_enter Tryz.func121, Tryz.ntmps121
  go_wp2
  go_ret
  exact ⟨rfl, rfl⟩
theorem nothing_u (w : World) : Calls Tryz.prog 202 #[] w fun e w' => e = .returned (.agg #[.int .u64 1, .int .u64 0]) ∧ w' = w.alloc (.cells #[.int .u64 1, .int .u64 0] 130) := by
  go_enter Tryz.func202, Tryz.ntmps202
  go_wp2
  go_returns
  exact ⟨rfl, rfl⟩
theorem whole_u (w : World) : Calls Tryz.prog 123 #[] w fun e w' => e = .returned (.agg #[.int .u64 0, .int .u64 18446744073709551615]) ∧ w' = w.alloc (.cells #[.int .u64 0, .int .u64 18446744073709551615] 26) := by
  go_enter Tryz.func123, Tryz.ntmps123
  go_wp2
  go_returns
  exact ⟨rfl, rfl⟩
theorem empty_s (l h : Int) (w : World) : Calls Tryz.prog 122 #[.agg #[.int .i64 l, .int .i64 h]] w fun e w' => e = .returned (.bool (decide (h < l))) ∧ w' = w.alloc (.cells #[.int .i64 l, .int .i64 h] 132) := by
  go_enter Tryz.func122, Tryz.ntmps122
  go_wp2
  go_ret
  exact ⟨rfl, rfl⟩
theorem nothing_s (w : World) : Calls Tryz.prog 203 #[] w fun e w' => e = .returned (.agg #[.int .i64 1, .int .i64 0]) ∧ w' = w.alloc (.cells #[.int .i64 1, .int .i64 0] 132) := by
  go_enter Tryz.func203, Tryz.ntmps203
  go_wp2
  go_returns
  exact ⟨rfl, rfl⟩
theorem whole_s (w : World) : Calls Tryz.prog 124 #[] w fun e w' => e = .returned (.agg #[.int .i64 (-9223372036854775808), .int .i64 9223372036854775807]) ∧ w' = w.alloc (.cells #[.int .i64 (-9223372036854775808), .int .i64 9223372036854775807] 28) := by
  go_enter Tryz.func124, Tryz.ntmps124
  go_wp2
  go_returns
  exact ⟨rfl, rfl⟩
end Go.Proofs.YtcbcijibgpaipaaGreat
end
section
namespace Go.Proofs.YtcbcijibgpaipaaGreat
open Go.ChangeShapes Go.WideShapes Go.ChangeAt Go.RowKit
set_option linter.unusedVariables false
open Go.Lib
set_option maxRecDepth 20000

end Go.Proofs.YtcbcijibgpaipaaGreat
end
section
namespace Go.Proofs.YtcbcijibgpaipaaGreat
open Go.ChangeShapes Go.WideShapes Go.ChangeAt Go.RowKit
set_option linter.unusedVariables false
set_option maxRecDepth 20000

/-- Of a row without numbers: the answer d. -/
def eN (n : Bool) (d r : Int) : Int := if n then d else r
end Go.Proofs.YtcbcijibgpaipaaGreat
end
section
namespace Go.Proofs.YtcbcijibgpaipaaGreat
open Go.ChangeShapes Go.WideShapes Go.ChangeAt Go.RowKit
set_option linter.unusedVariables false
set_option maxRecDepth 20000

end Go.Proofs.YtcbcijibgpaipaaGreat
end
section
namespace Go.Proofs.YtcbcijibgpaipaaGreat
open Go.ChangeShapes Go.WideShapes Go.ChangeAt Go.RowKit
set_option linter.unusedVariables false
set_option maxRecDepth 20000

theorem cell_st {w : World} {a p : Addr} {v u : Value} (hp : p.block ≠ a.block) (h : w.cell? a = some v) : (w.setCell p u).cell? a = some v := by
  rw [World.cell?_setCell_far _ _ _ _ hp, h]
end Go.Proofs.YtcbcijibgpaipaaGreat
end
section
namespace Go.Proofs.YtcbcijibgpaipaaGreat
open Go.ChangeShapes Go.WideShapes Go.ChangeAt Go.RowKit
set_option linter.unusedVariables false
set_option maxRecDepth 20000

theorem has_u (l h x : Int) (w : World) : Calls Tryz.prog 129 #[.agg #[.int .u64 l, .int .u64 h], .int .u64 x] w fun e w' => e = .returned (.bool (decide (l ≤ x) && decide (x ≤ h))) ∧ w' = w.alloc (.cells #[.int .u64 l, .int .u64 h] 130) := by
  cases e1 : decide (l ≤ x)
  all_goals
    go_enter Tryz.func129, Tryz.ntmps129
    go_wp2
    go_ret
    exact ⟨by simp, rfl⟩
theorem none_u (l h : Int) (w : World) : Calls Tryz.prog 55 #[.agg #[.int .u64 l, .int .u64 h]] w fun e w' => e = .returned (.bool (decide (h < l))) ∧ w' = (w.alloc (.cells #[.int .u64 l, .int .u64 h] 26)).alloc (.cells #[.int .u64 l, .int .u64 h] 130) := by
  go_enter Tryz.func55, Tryz.ntmps55
  go_wp2_with (first
    | (go_at_call 121; refine (empty_u _ _ _).mono ?_; rintro e w' ⟨rfl, hw⟩; subst hw))
  go_ret
  exact ⟨rfl, rfl⟩
theorem Has_u (l h x : Int) (w : World) : Calls Tryz.prog 62 #[.agg #[.int .u64 l, .int .u64 h], .int .u64 x] w fun e w' => e = .returned (.bool (decide (l ≤ x) && decide (x ≤ h))) ∧ w' = (w.alloc (.cells #[.int .u64 l, .int .u64 h] 26)).alloc (.cells #[.int .u64 l, .int .u64 h] 130) := by
  go_enter Tryz.func62, Tryz.ntmps62
  go_wp2_with (first
    | (go_at_call 129; refine (has_u _ _ _ _).mono ?_; rintro e w' ⟨rfl, hw⟩; subst hw))
  go_ret
  exact ⟨rfl, rfl⟩
theorem has_s (l h x : Int) (w : World) : Calls Tryz.prog 130 #[.agg #[.int .i64 l, .int .i64 h], .int .i64 x] w fun e w' => e = .returned (.bool (decide (l ≤ x) && decide (x ≤ h))) ∧ w' = w.alloc (.cells #[.int .i64 l, .int .i64 h] 132) := by
  cases e1 : decide (l ≤ x)
  all_goals
    go_enter Tryz.func130, Tryz.ntmps130
    go_wp2
    go_ret
    exact ⟨by simp, rfl⟩
theorem none_s (l h : Int) (w : World) : Calls Tryz.prog 56 #[.agg #[.int .i64 l, .int .i64 h]] w fun e w' => e = .returned (.bool (decide (h < l))) ∧ w' = (w.alloc (.cells #[.int .i64 l, .int .i64 h] 28)).alloc (.cells #[.int .i64 l, .int .i64 h] 132) := by
  go_enter Tryz.func56, Tryz.ntmps56
  go_wp2_with (first
    | (go_at_call 122; refine (empty_s _ _ _).mono ?_; rintro e w' ⟨rfl, hw⟩; subst hw))
  go_ret
  exact ⟨rfl, rfl⟩
theorem Has_s (l h x : Int) (w : World) : Calls Tryz.prog 63 #[.agg #[.int .i64 l, .int .i64 h], .int .i64 x] w fun e w' => e = .returned (.bool (decide (l ≤ x) && decide (x ≤ h))) ∧ w' = (w.alloc (.cells #[.int .i64 l, .int .i64 h] 28)).alloc (.cells #[.int .i64 l, .int .i64 h] 132) := by
  go_enter Tryz.func63, Tryz.ntmps63
  go_wp2_with (first
    | (go_at_call 130; refine (has_s _ _ _ _).mono ?_; rintro e w' ⟨rfl, hw⟩; subst hw))
  go_ret
  exact ⟨rfl, rfl⟩
theorem rspan (l h : Int) (w : World) : Calls Tryz.prog 135 #[.int .u64 l, .int .u64 h] w fun e w' => e = .returned (.agg #[.int .u64 l, .int .u64 h]) ∧ w' = w.alloc (.cells #[.int .u64 l, .int .u64 h] 26) := by
  go_enter Tryz.func135, Tryz.ntmps135
  go_wp2
  go_returns
  exact ⟨rfl, rfl⟩
theorem rfull (w : World) : Calls Tryz.prog 125 #[] w fun e w' => e = .returned (.agg #[.int .u64 0, .int .u64 18446744073709551615]) ∧ w' = (w.alloc (.cells #[.int .u64 0, .int .u64 18446744073709551615] 26)).alloc (.cells #[.int .u64 0, .int .u64 18446744073709551615] 26) := by
  go_enter Tryz.func125, Tryz.ntmps125
  go_wp2_with (first
    | (go_at_call 135; refine (rspan _ _ _).mono ?_; rintro e w' ⟨rfl, hw⟩; subst hw))
  go_returns
  exact ⟨rfl, rfl⟩
theorem rall (w : World) : Calls Tryz.prog 126 #[] w fun e w' => e = .returned (.agg #[.int .i64 (-9223372036854775808), .int .i64 9223372036854775807]) ∧ w' = w.alloc (.cells #[.int .i64 (-9223372036854775808), .int .i64 9223372036854775807] 28) := by
  go_enter Tryz.func126, Tryz.ntmps126
  go_wp2
  go_returns
  exact ⟨rfl, rfl⟩
end Go.Proofs.YtcbcijibgpaipaaGreat
end
