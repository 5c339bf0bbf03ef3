/- Towards the statements of package tree (layer 16): a range over a function that calls itself; all. -/
import Derived.RangeFuncNested
import Derived.RangeFuncBound
import Derived.RangeFuncCalls
import Derived.RangeFuncLeaves
import Derived.RangeFuncBox
import Derived.Shelf.Abstract
import Derived.Shelf.RegionOpen
import Derived.WalkKit
import Derived.OwnWalkIn
import Derived.TacticsInMore
import Derived.LoopNIn
import Derived.LoopIn
import Derived.Maps.AppendAt
import Derived.Test.YthgpbbpmfpfjnaaTL
namespace Go.Proofs.Ythgpbbpmfpfjnaa.T
open Go.ChangeShapes Go.WideShapes Go.ChangeAt Go.RowKit
set_option linter.unusedVariables false
set_option linter.unusedSimpArgs false
set_option maxRecDepth 20000
attribute [local go_sem] Oper.semAt_some
theorem size_put (A : World) (l : Nat) (o : Obj) : A.heap.size ≤ (A.putObj l o).heap.size := by simp [World.putObj]
theorem yieldAt_wide {m m' l : Nat} {P : Program} {args : Array Value} {W : World} {R : Ending → World → Prop} (h : YieldAt Fence.wide m P l args W R) : YieldAt Fence.wide m' P l args W R := by
  obtain ⟨fn, tmps, assign, body, e, h1, h2⟩ := h
  exact ⟨fn, tmps, assign, body, e, h1, fun c cs _ => h2 c cs (room_wide _)⟩
/-- Boxes of functions are kept. -/
def K74 (A B : World) : Prop := ∀ (b : Nat) (c : Array Value), A.heap[b]? = some (.cells c 154 (0, 0)) → B.heap[b]? = some (.cells c 154 (0, 0))
theorem K74.refl (A : World) : K74 A A := fun _ _ h => h
theorem K74.trans {A B C : World} (h : K74 A B) (k : K74 B C) : K74 A C := fun b c e => k b c (h b c e)
theorem K74.put {A : World} {l : Nat} {o : Obj} (hl : A.heap[l]? = some o) (ho : o.isCells = false) (o' : Obj) : K74 A (A.putObj l o') := fun b c hb => (World.putObj_heap_other (by intro e; rw [e, hl] at hb; cases hb; cases ho)).trans hb
theorem K74.below {A B : World} (h : Below A.heap.size A B) : K74 A B := fun b c hb => (h.block b (heap_lt hb)).trans hb
/-- What a round tells: it goes on, and what it leaves. -/
def RoundOk (B : Nat) (J : List HKey → World → Prop) (pre : List HKey) (W : World) (e : Ending) (W' : World) : Prop := e = .returned (.bool true) ∧ J pre W' ∧ KeepsFrom B W W' ∧ K74 W W'
theorem loop_keep {enc : HKey → Value} {n : Nat} {g : Operand} {t : Tmp} {assign body : Code} {Q : Exit → Act → World → Prop} {a : Act} {w : World} (h1 : 1 ≤ n) {gf : Nat} {bs : Array Value} (hg : a.eval g = .func (.func gf) bs #[]) (eg : ∀ args w, (callFunc gf args).run Try.prog w = .ok (.enter gf args) w)
    {xs : List HKey} (I : List HKey → World → Prop) (hI : OwnFrom w.heap.size I) (h0 : I [] w)
    (hseq : ∀ (l : Nat) (J : List HKey → World → Prop) (W : World), Below w.heap.size w W → (∀ pre W1, J pre W1 → I pre W1) → OwnFrom W.heap.size J → (∀ pre x W1, J pre W1 → (pre ++ [x]) <+: xs → ∀ m, YieldAt Fence.wide m Try.prog l #[enc x] W1 (RoundOk W.heap.size J (pre ++ [x]) W1)) → J [] W → CallsIn Fence.wide (n - 1) Try.prog gf (bs ++ #[.func (.yield l) #[] #[]]) W fun e W' => (∃ v, e = .returned v) ∧ J xs W')
    (Ax : HKey → Act → World → Prop) (hAx : ∀ x a', OwnFrom w.heap.size (fun (_ : Unit) W => Ax x a' W))
    (hassign : ∀ (l : Nat) (pre : List HKey) (x : HKey) (W : World) (K : Act → World → Prop), I pre W → (∀ a' W', KeepsFrom w.heap.size W W' → K74 W W' → I pre W' → Ax x a' W' → K a' W') → assign.wpIn (Fence.wide.inRound l) (n - 1 - 1) Try.prog (Exit.then K (fun _ _ _ => False)) { tmps := a.tmps.setIfInBounds t (enc x), defers := [] } W)
    (hbody : ∀ (l : Nat) (pre : List HKey) (x : HKey) (a' : Act) (W : World), I pre W → Ax x a' W → (pre ++ [x]) <+: xs → body.wpIn (Fence.wide.inRound l) (n - 1 - 1) Try.prog (ownPostG w.heap.size K74 I (fun _ _ _ => False) (pre ++ [x]) W) a' W)
    (hdone : ∀ (D : Nat) (W : World), w.heap.size ≤ D → I xs W → W.heap[D]? = some (.deferred (some [])) → Q .normal { a with defers := { target := .collected D, args := #[] } :: a.defers } W) :
    (Code.rangeFunc g #[t] assign body).wpIn Fence.wide n Try.prog Q a w := by
  refine wpIn_rangeFunc fun fn hfn => ?_
  have hen := run_enterLoop_outer (P := Try.prog) (w := w) fn a.tmps #[t] assign body
  let R (s : LoopState) : Obj := .loop { state := s, pending := none, fn := fn, tmps := a.tmps, params := #[t], assign := assign, body := body, defers := w.heap.size }
  have hbig : Below w.heap.size w ((w.alloc (.deferred (some []))).alloc (R .ready)) := ((Below.refl _ w).alloc (Nat.le_refl _) _).alloc (by simp) _
  have hsz : ((w.alloc (.deferred (some []))).alloc (R .ready)).heap.size = w.heap.size + 2 := by simp
  have hrec : ((w.alloc (.deferred (some []))).alloc (R .ready)).heap[w.heap.size + 1]? = some (R .ready) := by
    have := World.alloc_heap_new (w.alloc (.deferred (some []))) (R .ready); rwa [World.size_alloc] at this
  have hdef : ((w.alloc (.deferred (some []))).alloc (R .ready)).heap[w.heap.size]? = some (.deferred (some [])) := (Below.heap_alloc _ _ _ (by simp)).trans (World.alloc_heap_new w _)
  have hI1 : I [] ((w.alloc (.deferred (some []))).alloc (R .ready)) := hI.alloc _ (hI.alloc _ h0)
  refine ⟨w.heap.size + 1, _, _, { target := .fn (.func gf) #[], args := bs ++ #[.func (.yield (w.heap.size + 1)) #[] #[]] }, (w.alloc (.deferred (some []))).alloc (R .ready), gf, bs ++ #[.func (.yield (w.heap.size + 1)) #[] #[]], (w.alloc (.deferred (some []))).alloc (R .ready), hen, ?_, fun _ _ => trivial, ?_, fun _ => h1, ?_⟩
  · simp only [resolve, hg]
    simp [go_sem, R]
  · simp [invoke, go_sem, eg]
  refine (hseq (w.heap.size + 1) (fun pre W => I pre W ∧ W.heap[w.heap.size + 1]? = some (R .ready) ∧ W.heap[w.heap.size]? = some (.deferred (some []))) ((w.alloc (.deferred (some []))).alloc (R .ready)) hbig (fun pre W1 h => h.1)
    (fun s A B row hs hgr hr => ⟨hI s A B row hs.1 hgr (fun r e => And.intro (by have := (hr r e).1; rw [hsz] at this; omega) (hr r e).2),
      (hgr.block _ (Array.getElem?_eq_some_iff.1 hs.2.1).1 (fun e => by have := (hr _ e.symm).1; rw [hsz] at this; omega)).trans hs.2.1,
      (hgr.block _ (Array.getElem?_eq_some_iff.1 hs.2.2).1 (fun e => by have := (hr _ e.symm).1; rw [hsz] at this; omega)).trans hs.2.2⟩)
    ?round ⟨hI1, hrec, hdef⟩).mono ?done
  case round =>
    rintro pre x W ⟨hi, hr, hd⟩ hpx m
    refine yieldAt_wide (m := n - 1 - 1) ?_
    have hlt := (Array.getElem?_eq_some_iff.1 hr).1
    have ez : (#[t].zip #[enc x]).foldl (fun tmps (p, v) => tmps.setIfInBounds p v) a.tmps = a.tmps.setIfInBounds t (enc x) := by simp
    refine ⟨fn, _, assign, body, run_yield hr rfl, roundIn_of_wpIn trivial ?_⟩
    dsimp only
    rw [ez]
    refine hassign _ pre x W _ hi fun a' W' hkf hk74 hi' hax => ?_
    have hr' := hkf.same (w.heap.size + 1) _ (by omega) hr rfl
    have hd' := hkf.same w.heap.size _ (Nat.le_refl _) hd rfl
    have hlt' := (Array.getElem?_eq_some_iff.1 hr').1
    refine ⟨_, run_beginRound hr' rfl, ?_⟩
    refine wpIn_mono (hbody _ pre x a' _ (hI.putObj _ hi' (by omega) hr' rfl) ((hAx x a').putObj (s := ()) _ hax (by omega) hr' rfl) hpx) ?_
    rintro e a3 W3 hp
    cases e with
    | normal =>
      obtain ⟨hk, hkp, hi3⟩ := hp
      have hr3 := hk.same (w.heap.size + 1) _ (by omega) (World.putObj_heap_same (o := R .busy) hlt') rfl
      have hd3 := hk.same w.heap.size _ (Nat.le_refl _) ((World.putObj_heap_other (by omega)).trans hd') rfl
      have hlt3 := (Array.getElem?_eq_some_iff.1 hr3).1
      refine ⟨_, _, run_endRound none hr3, rfl, ⟨hI.putObj _ hi3 (by omega) hr3 rfl, World.putObj_heap_same hlt3, (World.putObj_heap_other (by omega)).trans hd3⟩, ⟨?_, fun i o hi ho hc => ?_⟩, ?_⟩
      · exact Nat.le_trans hkf.size (Nat.le_trans (size_put _ _ _) (Nat.le_trans hk.size (size_put _ _ _)))
      · rw [hsz] at hi
        exact (World.putObj_heap_other (by omega)).trans (hk.same i o (by omega) ((World.putObj_heap_other (by omega)).trans (hkf.same i o (by omega) ho hc)) hc)
      · exact ((hk74.trans (K74.put hr' rfl _)).trans hkp).trans (K74.put hr3 rfl _)
    | ret => exact hp.2.elim
    | exit id => exact hp.2.elim
    | goto t => exact hp.2.elim
    | panic ch => exact hp.elim
    | outgrown => exact hp.elim
  case done =>
    rintro e W2 ⟨⟨v, rfl⟩, hi, hr, hd⟩
    exact ⟨none, _, run_endLoop hr (by simp), hdone _ _ (Nat.le_refl _) (hI.putObj _ hi (by omega) hr rfl) ((World.putObj_heap_other (by omega)).trans hd)⟩
end Go.Proofs.Ythgpbbpmfpfjnaa.T
