/- Towards the statements of package code (layer 8): slices.AppendSeq, Collect, Sorted at ints, of any iterator; Next. -/
import Derived.Test.YtdmdmbcapjmnlaaCC
import Derived.Test.YtdmdmbcapjmnlaaShelf
import Derived.Lib.SmallJoins
import Derived.Sort.OwnSortedInts
import Derived.Lib.OwnBridge
namespace Go.Proofs.Ytdmdmbcapjmnlaa
open Go.ChangeShapes Go.WideShapes Go.ChangeAt
open Go.RowKit Go.Shelf
set_option linter.unusedVariables false
set_option linter.unusedSimpArgs false
set_option maxRecDepth 20000
attribute [local go_sem] Oper.semAt_some

theorem info3 : (Try.prog.info? 3).map (fun i => (i.zero, i.size, i.bytes)) = some (some (.int .i64 0), 1, 8) := by kernel_rfl
/-- New memory of the call's own: the numbers xs. -/
def Own (w w' : World) (v : Value) (xs : List Int) : Prop := w'.ownsRow w.heap.size 3 1 v xs.length (xs.map (Value.int .i64)) ∧ Below w.heap.size w w'
/-- A function value that gives the numbers of xs, to every loop that keeps what Kp says. -/
structure Iter {α : Type} (enc : α → Int) (w : World) (g : Nat) (lb : Array Value) (Kp : World → World → Prop) (xs : List α) (N : Nat) : Prop where
  enters : ∀ args w, (callFunc g args).run Try.prog w = .ok (.enter g args) w
  stops : ∀ n, 1 ≤ n → SeqStopsK Fence.wide n Try.prog g lb (fun x : α => #[Value.int .i64 (enc x)]) Kp (fun ys => ys = xs) (fun pre => pre <+: xs) N w
  trans : ∀ {A B C : World}, Kp A B → Kp B C → Kp A C
  keeps : ∀ W W', Below w.heap.size W W' → Kp W W'
theorem Iter.gr {α : Type} {enc : α → Int} {w w' : World} {g : Nat} {lb : Array Value} {Kp : World → World → Prop} {xs : List α} {N : Nat} (h : Iter enc w g lb Kp xs N) (hb : Below w.heap.size w w') : Iter enc w' g lb Kp xs N :=
  ⟨h.enters, fun n hn l J Jx W hW => h.stops n hn l J Jx W (hb.trans (hW.mono hb.size)), h.trans, fun W W' hW => h.keeps W W' (hW.mono hb.size)⟩

theorem grown_refl (w : World) (r : Option Nat) : w.grownBy w r := ⟨rfl, rfl, rfl, Nat.le_refl _, fun _ _ _ => rfl⟩
theorem ms_len (xs : List Int) : (xs.mergeSort fun x y => decide (x ≤ y)).length = xs.length := List.length_mergeSort _
/-- slices.Sort of memory of the call's own. -/
theorem sort_own (B : Nat) (v : Value) (xs : List Int) (hl : xs.length ≤ 8192) (w : World) (h : w.ownsRow B 3 1 v xs.length (xs.map (Value.int .i64))) :
    Calls Try.prog 64 #[v] w fun e w' => e = .returned (.tuple #[]) ∧ w'.ownsRow B 3 1 v xs.length ((xs.mergeSort fun x y => decide (x ≤ y)).map (Value.int .i64)) ∧ Below B w w' ∧ w.grownBy w' v.ownBlock := by
  rcases h.2 with ⟨rfl, h0⟩ | ⟨g, cap, cur, rfl, hb, hg, hn, hm, hs, ht⟩
  · refine (Try.slices_Sort_int_none none 0 w).mono ?_
    rintro e w' ⟨rfl, rfl⟩
    obtain rfl : xs = [] := List.length_eq_zero_iff.1 h0
    exact ⟨rfl, by simpa using h, Below.refl _ _, grown_refl _ _⟩
  · have hlt : g < w.heap.size := (Array.getElem?_eq_some_iff.1 hg).1
    refine (Try.slices_Sort_int g 0 cap xs w (holds_of_blockI hg (by simpa using ht)) hlt (by omega)).mono ?_
    rintro e w' ⟨rfl, n, os, rfl⟩
    exact ⟨rfl, ownsRow_sortedI (ms_len xs) hb hg hn hm hs, (Below.refl B w).grown (grownBy_sortedI _) (by omega) (fun k e => by cases e; exact hb), grownBy_sortedI _⟩
theorem compact_len (xs : List Int) : (Lib.compact xs).length ≤ xs.length := Lib.compact_length_le xs
theorem compact_own (B : Nat) (v : Value) (xs : List Int) (hl : xs.length ≤ 8192) (w : World) (h : w.ownsRow B 3 1 v xs.length (xs.map (Value.int .i64))) :
    Calls Try.prog 65 #[v] w fun e w' => ∃ v2, e = .returned v2 ∧ w'.ownsRow B 3 1 v2 (Lib.compact xs).length ((Lib.compact xs).map (Value.int .i64)) ∧ Below B w w' ∧ w.grownBy w' v.ownBlock := by
  rcases h.2 with ⟨rfl, h0⟩ | ⟨g, cap, cur, rfl, hb, hg, hn, hm, hs, ht⟩
  · refine (Try.slices_Compact_int_empty none 0 w).mono ?_
    rintro e w' ⟨rfl, rfl⟩
    obtain rfl : xs = [] := List.length_eq_zero_iff.1 h0
    exact ⟨_, rfl, World.ownsRow_nil _ _ _ _, Below.refl _ _, grown_refl _ _⟩
  · have hlt : g < w.heap.size := (Array.getElem?_eq_some_iff.1 hg).1
    refine (Try.slices_Compact_int g 0 cap xs w (holds_of_blockI hg (by simpa using ht)) (by omega) hn).mono ?_
    rintro e w' ⟨rfl, q, rfl⟩
    have hc := compact_len xs
    refine ⟨_, rfl, ?_, Lib.below_putRow (Below.refl _ _) hb, by have := grownBy_sortedI (w := w) (g := g) (n := q) (os := #[]) (Lib.compact xs ++ List.replicate (xs.length - (Lib.compact xs).length) 0).toArray; rw [Sort.grow_empty] at this; exact this⟩
    have := Lib.ownsRow_putRow (enc := Value.int .i64) (q := q) (k := (Lib.compact xs).length) (zs := xs) (ys := Lib.compact xs ++ List.replicate (xs.length - (Lib.compact xs).length) 0) h (by simp; omega) hc
    simpa using this
/-- Where an instruction leads, rising, each once. -/
def nextM (L : List Sl) (at_ : Int) : List Int := Lib.compact ((leadsM L at_).mergeSort fun x y => decide (x ≤ y))
theorem leadsM_len (L : List Sl) (at_ : Int) : (leadsM L at_).length ≤ 2 := by
  unfold leadsM; repeat (first | split | simp)
theorem leads_iter {α : Type} (enc : α → Int) (xs : List α) (S : Nat → Prop) (p : Option Addr) (n c : Nat) (L : List Sl) (at_ : Int) (w : World) (hL : Slots S w (.slice p n c) L) (hxs : xs.map enc = leadsM L at_) :
    Iter enc ((w.alloc (.cells #[.slice p n c] 22)).alloc (.cells #[.int .i64 at_] 3)) 62 #[.pointer (some ⟨w.heap.size, 0, none⟩), .pointer (some ⟨w.heap.size + 1, 0, none⟩)] (fun W W' => Keep (fun b => b = w.heap.size ∨ b = w.heap.size + 1 ∨ (S b ∧ b < w.heap.size)) W W' ∧ W.heap.size ≤ W'.heap.size) xs 2 := by
  have hb0 : Below w.heap.size w ((w.alloc (.cells #[.slice p n c] 22)).alloc (.cells #[.int .i64 at_] 3)) := ((Below.refl _ w).alloc (Nat.le_refl _) _).alloc (by simp) _
  have hS : ∀ b, (b = w.heap.size ∨ b = w.heap.size + 1 ∨ (S b ∧ b < w.heap.size)) → b < ((w.alloc (.cells #[.slice p n c] 22)).alloc (.cells #[.int .i64 at_] 3)).heap.size := fun b h => by simp; omega
  refine ⟨enters_of Try.func62 (by kernel_rfl) rfl, fun m hm => leads1_stops enc m hm w.heap.size (w.heap.size + 1) _ (.slice p n c) L at_ xs hxs _ (.inl rfl) (.inr (.inl rfl)) hS ?_ ?_ ?_, fun h k => ⟨h.1.trans k.1, Nat.le_trans h.2 k.2⟩, fun W W' h => ⟨.of h hS, h.size⟩⟩
  · exact ((Boxed.new w 22 (.slice p n c)).alloc _).cell
  · have := (Boxed.new (w.alloc (.cells #[.slice p n c] 22)) 3 (.int .i64 at_)).cell
    rwa [World.size_alloc] at this
  · have hh := hL.gr hb0
    refine ⟨hL.ok, hL.len, ?_⟩
    rcases hL.at' with e | ⟨b, off, cap, e, hs, hlt, _⟩
    · exact .inl e
    · rcases hh.at' with e' | ⟨b', off', cap', e', hs', hlt', hc'⟩
      · exact .inl e'
      · rw [e] at e'; cases e'; exact .inr ⟨b, off, cap, e, .inr (.inr ⟨hs, hlt⟩), hlt', hc'⟩
end Go.Proofs.Ytdmdmbcapjmnlaa
