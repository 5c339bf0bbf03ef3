/- Towards the statements of package list (layer 15): a range over a bound function; All. -/
import Derived.RangeFuncNested
import Derived.RangeFuncBound
import Derived.RangeFuncCalls
import Derived.RangeFuncLeaves
import Derived.RangeFuncBox
import Derived.Shelf.Abstract
import Derived.Shelf.RegionOpen
import Derived.WalkKit
import Derived.OwnWalkIn
import Derived.TacticsInMore
import Derived.LoopNIn
import Derived.LoopIn
import Derived.Maps.AppendAt
import Derived.Test.YthgpbbpmfpfjnaaLG
namespace Go.Proofs.Ythgpbbpmfpfjnaa
open Go.ChangeShapes Go.WideShapes Go.ChangeAt Go.RowKit
set_option linter.unusedVariables false
set_option linter.unusedSimpArgs false
set_option maxRecDepth 20000
attribute [local go_sem] Oper.semAt_some
theorem size_put (A : World) (l : Nat) (o : Obj) : A.heap.size ≤ (A.putObj l o).heap.size := by simp [World.putObj]
theorem loop_bound {α : Type} {enc : α → Value} {n : Nat} {g : Operand} {t : Tmp} {assign body : Code} {Q : Exit → Act → World → Prop} {a : Act} {w : World} (h1 : 1 ≤ n) {gf : Nat} {bs : Array Value} (hg : a.eval g = .func (.func gf) bs #[]) (eg : ∀ args w, (callFunc gf args).run Try.prog w = .ok (.enter gf args) w)
    {xs : List α} (I : List α → World → Prop) (hI : OwnFrom w.heap.size I) (h0 : I [] w)
    (hseq : ∀ (l : Nat) (J : List α → World → Prop) (W : World), (∀ pre W1, J pre W1 → I pre W1) → (∀ pre x W1, J pre W1 → (pre ++ [x]) <+: xs → YieldAt Fence.wide (n - 1 - 1) Try.prog l #[enc x] W1 fun e W' => e = .returned (.bool true) ∧ J (pre ++ [x]) W') → J [] W → CallsIn Fence.wide (n - 1) Try.prog gf (bs ++ #[.func (.yield l) #[] #[]]) W fun e W' => (∃ v, e = .returned v) ∧ J xs W')
    (Ax : α → Act → World → Prop) (hAx : ∀ x a', OwnFrom w.heap.size (fun (_ : Unit) W => Ax x a' W))
    (hassign : ∀ (l : Nat) (pre : List α) (x : α) (W : World) (K : Act → World → Prop), I pre W → (∀ a' W', KeepsFrom w.heap.size W W' → I pre W' → Ax x a' W' → K a' W') → assign.wpIn (Fence.wide.inRound l) (n - 1 - 1) Try.prog (Exit.then K (fun _ _ _ => False)) { tmps := a.tmps.setIfInBounds t (enc x), defers := [] } W)
    (hbody : ∀ (l : Nat) (pre : List α) (x : α) (a' : Act) (W : World), I pre W → Ax x a' W → (pre ++ [x]) <+: xs → body.wpIn (Fence.wide.inRound l) (n - 1 - 1) Try.prog (ownPostG w.heap.size (fun _ _ => True) I (fun _ _ _ => False) (pre ++ [x]) W) a' W)
    (hdone : ∀ (D : Nat) (W : World), w.heap.size ≤ D → I xs W → W.heap[D]? = some (.deferred (some [])) → Q .normal { a with defers := { target := .collected D, args := #[] } :: a.defers } W) :
    (Code.rangeFunc g #[t] assign body).wpIn Fence.wide n Try.prog Q a w := by
  refine wpIn_rangeFunc fun fn hfn => ?_
  have hen := run_enterLoop_outer (P := Try.prog) (w := w) fn a.tmps #[t] assign body
  let R (s : LoopState) : Obj := .loop { state := s, pending := none, fn := fn, tmps := a.tmps, params := #[t], assign := assign, body := body, defers := w.heap.size }
  have hbig : Below w.heap.size w ((w.alloc (.deferred (some []))).alloc (R .ready)) := ((Below.refl _ w).alloc (Nat.le_refl _) _).alloc (by simp) _
  have hsz : ((w.alloc (.deferred (some []))).alloc (R .ready)).heap.size = w.heap.size + 2 := by simp
  have hrec : ((w.alloc (.deferred (some []))).alloc (R .ready)).heap[w.heap.size + 1]? = some (R .ready) := by
    have := World.alloc_heap_new (w.alloc (.deferred (some []))) (R .ready); rwa [World.size_alloc] at this
  have hdef : ((w.alloc (.deferred (some []))).alloc (R .ready)).heap[w.heap.size]? = some (.deferred (some [])) := (Below.heap_alloc _ _ _ (by simp)).trans (World.alloc_heap_new w _)
  have hI1 : I [] ((w.alloc (.deferred (some []))).alloc (R .ready)) := hI.alloc _ (hI.alloc _ h0)
  refine ⟨w.heap.size + 1, _, _, { target := .fn (.func gf) #[], args := bs ++ #[.func (.yield (w.heap.size + 1)) #[] #[]] }, (w.alloc (.deferred (some []))).alloc (R .ready), gf, bs ++ #[.func (.yield (w.heap.size + 1)) #[] #[]], (w.alloc (.deferred (some []))).alloc (R .ready), hen, ?_, fun _ _ => trivial, ?_, fun _ => h1, ?_⟩
  · simp only [resolve, hg]
    simp [go_sem, R]
  · simp [invoke, go_sem, eg]
  refine (hseq (w.heap.size + 1) (fun pre W => I pre W ∧ W.heap[w.heap.size + 1]? = some (R .ready) ∧ W.heap[w.heap.size]? = some (.deferred (some []))) ((w.alloc (.deferred (some []))).alloc (R .ready)) (fun pre W1 h => h.1)
    ?round ⟨hI1, hrec, hdef⟩).mono ?done
  case round =>
    rintro pre x W ⟨hi, hr, hd⟩ hpx
    have hlt := (Array.getElem?_eq_some_iff.1 hr).1
    have ez : (#[t].zip #[enc x]).foldl (fun tmps (p, v) => tmps.setIfInBounds p v) a.tmps = a.tmps.setIfInBounds t (enc x) := by simp
    refine ⟨fn, _, assign, body, run_yield hr rfl, roundIn_of_wpIn trivial ?_⟩
    dsimp only
    rw [ez]
    refine hassign _ pre x W _ hi fun a' W' hkf hi' hax => ?_
    have hr' := hkf.same (w.heap.size + 1) _ (by omega) hr rfl
    have hd' := hkf.same w.heap.size _ (Nat.le_refl _) hd rfl
    have hlt' := (Array.getElem?_eq_some_iff.1 hr').1
    refine ⟨_, run_beginRound hr' rfl, ?_⟩
    refine wpIn_mono (hbody _ pre x a' _ (hI.putObj _ hi' (by omega) hr' rfl) ((hAx x a').putObj (s := ()) _ hax (by omega) hr' rfl) hpx) ?_
    rintro e a3 W3 hp
    cases e with
    | normal =>
      obtain ⟨hk, hkp, hi3⟩ := hp
      have hr3 := hk.same (w.heap.size + 1) _ (by omega) (World.putObj_heap_same (o := R .busy) hlt') rfl
      have hd3 := hk.same w.heap.size _ (Nat.le_refl _) ((World.putObj_heap_other (by omega)).trans hd') rfl
      have hlt3 := (Array.getElem?_eq_some_iff.1 hr3).1
      exact ⟨_, _, run_endRound none hr3, rfl, ⟨hI.putObj _ hi3 (by omega) hr3 rfl, World.putObj_heap_same hlt3, (World.putObj_heap_other (by omega)).trans hd3⟩⟩
    | ret => exact hp.2.elim
    | exit id => exact hp.2.elim
    | goto t => exact hp.2.elim
    | panic ch => exact hp.elim
    | outgrown => exact hp.elim
  case done =>
    rintro e W2 ⟨⟨v, rfl⟩, hi, hr, hd⟩
    exact ⟨none, _, run_endLoop hr (by simp), hdone _ _ (Nat.le_refl _) (hI.putObj _ hi (by omega) hr rfl) ((World.putObj_heap_other (by omega)).trans hd)⟩
def blkOf : Value → Nat
  | .pointer (some a) => a.block
  | _ => 0
theorem idx_at {x : Nat} : ∀ {l : List Nat}, l.Nodup → ∀ {j : Nat}, l[j]? = some x → l.idxOf x = j
  | [], _, j, h => by simp at h
  | a :: l, hn, 0, h => by simp at h; subst h; simp
  | a :: l, hn, j + 1, h => by
    rw [List.getElem?_cons_succ] at h
    rw [List.nodup_cons] at hn
    have : a ≠ x := fun q => hn.1 (q ▸ List.mem_of_getElem? h)
    simp [List.idxOf_cons, beq_false_of_ne this, idx_at hn.2 h]
set_option maxHeartbeats 2000000 in
theorem others_in (n : Nat) (hn : 1 ≤ n) (l e : Nat) (nx pv : Nat → Nat) (ky : Nat → HKey) (N : List Nat) (hr : Seg nx pv e N e) (hnd : (e :: N).Nodup) (J : List HKey → World → Prop) (W : World)
    (hJ : ∀ pre W1, J pre W1 → ∀ x ∈ e :: N, Lk W1 nx pv ky x)
    (hY : ∀ pre k W1, J pre W1 → (pre ++ [k]) <+: N.map ky → YieldAt Fence.wide (n - 1) Try.prog l #[.agg #[.int .i64 k.1, .int .u64 k.2]] W1 fun e W' => e = .returned (.bool true) ∧ J (pre ++ [k]) W')
    (h0 : J [] W) : CallsIn Fence.wide n Try.prog 82 #[.pointer (some ⟨e, 0, none⟩), .func (.yield l) #[] #[]] W fun e W' => (∃ v, e = .returned v) ∧ J (N.map ky) W' := by
  have hnd2 : (N ++ [e]).Nodup := (List.perm_append_comm (l₁ := N) (l₂ := [e])).nodup_iff.2 (by simpa using hnd)
  refine callsIn_of_wp Try.func82 rfl trivial ?_ rfl
  simp only [Try.ntmps82, List.size_toArray, List.length_cons, List.length_nil, Nat.reduceAdd, Nat.reduceSub, Array.replicate_succ, Array.replicate_zero, List.push_toArray, List.append_toArray, List.nil_append, List.cons_append]
  have e3 := (hJ _ _ h0 e (.head _)).c3
  have hs0 := hr.at 0 e rfl
  gi_wp2
  gi_loopw [4] (fun v wr => ∃ (j x : Nat), (N ++ [e])[j]? = some x ∧ v = .pointer (some ⟨x, 0, none⟩) ∧ J ((N.take j).map ky) wr)
    (fun v _ => N.length - (N ++ [e]).idxOf (blkOf v))
  case atStart => exact ⟨0, _, hs0, rfl, h0⟩
  case round =>
    obtain ⟨j, x, hj, rfl, hJs⟩ := hrel
    have hlk := hJ _ _ hJs
    have hidx := idx_at hnd2 hj
    by_cases hlt : j < N.length
    · have hxj : N[j]? = some x := by rw [List.getElem?_append_left hlt] at hj; exact hj
      have hxN := List.mem_of_getElem? hxj
      have hxe : x ≠ e := fun q => by rw [List.nodup_cons] at hnd; exact hnd.1 (q ▸ hxN)
      have hx := hlk x (.tail _ hxN)
      have q1 := neqp_other hxe hx (hlk e (.head _))
      have x0 := hx.c0
      have x1 := hx.c1
      have hpre : (N.take j).map ky ++ [ky x] = (N.take (j + 1)).map ky := by rw [List.take_add_one, hxj, List.map_append]; rfl
      have hpx : (N.take j).map ky ++ [ky x] <+: N.map ky := by rw [hpre]; exact (List.take_prefix _ _).map ky
      obtain ⟨fn, tmps, assign, body, hy, hR'⟩ := hY _ (ky x) wr hJs hpx
      gi_wp2
      refine hR'.mono ?_
      rintro e1 W3 ⟨rfl, hJ3⟩
      have x3 := (hJ _ _ hJ3 x (.tail _ hxN)).c3
      gi_wp2
      go_roundw
      case rel => exact ⟨j + 1, nx x, hr.at (j + 1) x (by simpa using hxj), rfl, by rw [← hpre]; exact hJ3⟩
      case measure =>
        have := idx_at hnd2 (hr.at (j + 1) x (by simpa using hxj))
        simp only [blkOf, this, hidx]
        omega
    · have hjl : j = N.length := by have := (List.getElem?_eq_some_iff.1 hj).1; simp at this; omega
      subst hjl
      obtain rfl : e = x := by simpa using hj
      have q1 := neqp_same e wr
      rw [List.take_length] at hJs
      gi_wp2
      go_end0
      exact ⟨⟨_, rfl⟩, hJs⟩
end Go.Proofs.Ythgpbbpmfpfjnaa
