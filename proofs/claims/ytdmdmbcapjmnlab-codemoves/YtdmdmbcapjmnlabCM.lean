/- Towards the statements of package code (layer 8): a loop over an iterator that is itself such a loop: iterators that go on for all that comes, loops that are never left. -/
import Derived.Test.YtdmdmbcapjmnlabCK
namespace Go.Proofs.Ytdmdmbcapjmnlab
open Go.ChangeShapes Go.WideShapes Go.ChangeAt
open Go.RowKit Go.Shelf
set_option linter.unusedVariables false
set_option linter.unusedSimpArgs false
set_option maxRecDepth 20000
attribute [local go_sem] Oper.semAt_some

/-- Called with a loop that is never left, the function value gives all of xs, one behind the other; what the loop says may lean on whatever is not turned behind its beginning. -/
def GivesAll {α : Type} (enc : α → Int) (n g : Nat) (lb : Array Value) (Kp : World → World → Prop) (xs : List α) (N : Nat) (w : World) : Prop :=
  ∀ (l : Nat) (J : List α → World → Prop) (W : World), Below w.heap.size w W → OwnFrom W.heap.size J →
    (∀ pre x W1, J pre W1 → pre.length < N → YieldAt Fence.wide (n - 1) Try.prog l #[.int .i64 (enc x)] W1 fun e W' => e = .returned (.bool true) ∧ J (pre ++ [x]) W' ∧ Kp W1 W' ∧ KeepsFrom w.heap.size W1 W') → J [] W →
    CallsIn Fence.wide n Try.prog g (#[.func (.yield l) #[] #[]] ++ lb) W fun e W' => (∃ v, e = .returned v) ∧ J xs W'
/-- Blocks of cells, but those of numbers, of bools and boxes of slices of numbers, are as they were. -/
def TKeep (A B : World) : Prop := ∀ (b : Nat) (c : Array Value) (t : TypeId), A.heap[b]? = some (.cells c t) → t ≠ 3 → t ≠ 4 → t ≠ 34 → B.heap[b]? = some (.cells c t)
theorem TKeep.refl (A : World) : TKeep A A := fun _ _ _ h _ _ _ => h
theorem TKeep.trans {A B C : World} (h : TKeep A B) (k : TKeep B C) : TKeep A C := fun b c t hb h3 h4 h36 => k b c t (h b c t hb h3 h4 h36) h3 h4 h36
theorem TKeep.put {A : World} {l : Nat} {o : Obj} (hl : A.heap[l]? = some o) (ho : o.isCells = false) (o' : Obj) : TKeep A (A.putObj l o') := fun b c t hb _ _ _ => (World.putObj_heap_other (by intro e; rw [e, hl] at hb; cases hb; cases ho)).trans hb
theorem TKeep.below {A B : World} (h : Below A.heap.size A B) : TKeep A B := fun b c t hb _ _ _ => (h.block b (Array.getElem?_eq_some_iff.1 hb).1).trans hb
theorem keep_put {S : Nat → Prop} {A : World} {l n : Nat} (hS : ∀ b, S b → b < n) (hl : n ≤ l) (o' : Obj) : Keep S A (A.putObj l o') := fun b hb => World.putObj_heap_other (by have := hS b hb; omega)
theorem size_put (A : World) (l : Nat) (o : Obj) : A.heap.size ≤ (A.putObj l o).heap.size := by simp [World.putObj]
theorem walk_not_cells {B : Nat} {β : Type} {J : β → World → Prop} (h : OwnFrom B J) : AbidesFrom B J := fun s W W' row hs hg hr =>
  h s W W' row hs hg (fun r e => ⟨(hr r e).1, by obtain ⟨_, o, ho, hw⟩ := hr r e; exact ⟨o, ho, Obj.not_cells_of_walk hw⟩⟩)
theorem Iter.all {α : Type} {enc : α → Int} {w : World} {g : Nat} {lb : Array Value} {Kp : World → World → Prop} {xs : List α} {N : Nat} (h : Iter enc w g lb Kp xs N) (n : Nat) (hn : 1 ≤ n) : GivesAll enc n g lb Kp xs N w := fun l J W hW hJ hY h0 => by
  refine (h.stops n hn l J (fun _ _ => False) W hW (walk_not_cells hJ) (fun _ _ _ _ hs _ _ => hs) (fun pre x W1 hj hl => (hY pre x W1 hj hl).mono fun e W' h => .inl ⟨h.1, h.2.1, h.2.2.1⟩) h0).mono ?_
  rintro e W' ⟨hv, ⟨ys, rfl, hj⟩ | ⟨_, _, hf⟩⟩
  · exact ⟨hv, hj⟩
  · exact hf.elim
/-- The loop over such a value: what stays so from round to round is so behind it. -/
theorem loop_all {α : Type} {enc : α → Int} {n : Nat} {g : Operand} {t : Tmp} {assign body : Code} {Q : Exit → Act → World → Prop} {a : Act} {w : World} (h1 : 1 ≤ n) {gf : Nat} {lb : Array Value} (hg : a.eval g = .func (.func gf) #[] lb) (eg : ∀ args w, (callFunc gf args).run Try.prog w = .ok (.enter gf args) w)
    {Kp : World → World → Prop} {xs : List α} {N : Nat} (hseq : GivesAll enc (n - 1) gf lb Kp xs N w) (hKt : ∀ {A B C : World}, Kp A B → Kp B C → Kp A C) (hKb : ∀ (W : World) (l : Nat) (o o' : Obj), w.heap.size ≤ l → W.heap[l]? = some o → o.isCells = false → Kp W (W.putObj l o'))
    (I : List α → World → Prop) (hI : OwnFrom w.heap.size I) (h0 : I [] w) (a₁ : α → Act)
    (hassign : ∀ (l : Nat) (x : α) (W : World) (K : Act → World → Prop), K (a₁ x) W → assign.wpIn (Fence.wide.inRound l) (n - 1 - 1) Try.prog (Exit.then K (fun _ _ _ => False)) { tmps := a.tmps.setIfInBounds t (.int .i64 (enc x)), defers := [] } W)
    (hbody : ∀ (l : Nat) (pre : List α) (x : α) (W : World), I pre W → pre.length < N → body.wpIn (Fence.wide.inRound l) (n - 1 - 1) Try.prog (ownPostG w.heap.size Kp I (fun _ _ _ => False) (pre ++ [x]) W) (a₁ x) W)
    (hdone : ∀ (D : Nat) (W : World), w.heap.size ≤ D → I xs W → W.heap[D]? = some (.deferred (some [])) → Q .normal { a with defers := { target := .collected D, args := #[] } :: a.defers } W) :
    (Code.rangeFunc g #[t] assign body).wpIn Fence.wide n Try.prog Q a w := by
  refine wpIn_rangeFunc fun fn hfn => ?_
  -- the loop's record lies at w.heap.size + 1, the block of deferred calls ahead of it
  have hen := run_enterLoop_outer (P := Try.prog) (w := w) fn a.tmps #[t] assign body
  let R (s : LoopState) : Obj := .loop { state := s, pending := none, fn := fn, tmps := a.tmps, params := #[t], assign := assign, body := body, defers := w.heap.size }
  have hbig : Below w.heap.size w ((w.alloc (.deferred (some []))).alloc (R .ready)) := ((Below.refl _ w).alloc (Nat.le_refl _) _).alloc (by simp) _
  have hsz : ((w.alloc (.deferred (some []))).alloc (R .ready)).heap.size = w.heap.size + 2 := by simp
  have hrec : ((w.alloc (.deferred (some []))).alloc (R .ready)).heap[w.heap.size + 1]? = some (R .ready) := by
    have := World.alloc_heap_new (w.alloc (.deferred (some []))) (R .ready); rwa [World.size_alloc] at this
  have hdef : ((w.alloc (.deferred (some []))).alloc (R .ready)).heap[w.heap.size]? = some (.deferred (some [])) := (Below.heap_alloc _ _ _ (by simp)).trans (World.alloc_heap_new w _)
  have hI1 : I [] ((w.alloc (.deferred (some []))).alloc (R .ready)) := hI.alloc _ (hI.alloc _ h0)
  refine ⟨w.heap.size + 1, _, _, { target := .fn (.func gf) lb, args := #[.func (.yield (w.heap.size + 1)) #[] #[]] }, (w.alloc (.deferred (some []))).alloc (R .ready), gf, #[.func (.yield (w.heap.size + 1)) #[] #[]] ++ lb, (w.alloc (.deferred (some []))).alloc (R .ready), hen, ?_, fun _ _ => trivial, ?_, fun _ => h1, ?_⟩
  · simp only [resolve, hg]
    simp [go_sem, R]
  · simp [invoke, go_sem, eg]
  refine (hseq (w.heap.size + 1) (fun pre W => I pre W ∧ W.heap[w.heap.size + 1]? = some (R .ready) ∧ W.heap[w.heap.size]? = some (.deferred (some []))) ((w.alloc (.deferred (some []))).alloc (R .ready)) hbig
    (fun s A B row hs hgr hr => ⟨hI s A B row hs.1 hgr (fun r e => And.intro (by have := (hr r e).1; rw [hsz] at this; omega) (hr r e).2),
      (hgr.block _ (Array.getElem?_eq_some_iff.1 hs.2.1).1 (fun e => by have := (hr _ e.symm).1; rw [hsz] at this; omega)).trans hs.2.1,
      (hgr.block _ (Array.getElem?_eq_some_iff.1 hs.2.2).1 (fun e => by have := (hr _ e.symm).1; rw [hsz] at this; omega)).trans hs.2.2⟩)
    ?round ⟨hI1, hrec, hdef⟩).mono ?done
  case round =>
    rintro pre x W ⟨hi, hr, hd⟩ hlen
    have hlt := (Array.getElem?_eq_some_iff.1 hr).1
    have ez : (#[t].zip #[Value.int .i64 (enc x)]).foldl (fun tmps (p, v) => tmps.setIfInBounds p v) a.tmps = a.tmps.setIfInBounds t (.int .i64 (enc x)) := by simp
    refine ⟨fn, _, assign, body, run_yield hr rfl, roundIn_of_wpIn trivial ?_⟩
    dsimp only
    rw [ez]
    refine hassign _ x W _ ⟨_, run_beginRound hr rfl, ?_⟩
    refine wpIn_mono (hbody _ pre x _ (hI.putObj _ hi (by omega) hr rfl) hlen) ?_
    rintro e a3 W3 hp
    cases e with
    | normal =>
      obtain ⟨hk, hkp, hi3⟩ := hp
      have hr3 := hk.same (w.heap.size + 1) _ (by omega) (World.putObj_heap_same (o := R .busy) hlt) rfl
      have hd3 := hk.same w.heap.size _ (Nat.le_refl _) ((World.putObj_heap_other (by omega)).trans hd) rfl
      have hlt3 := (Array.getElem?_eq_some_iff.1 hr3).1
      exact ⟨_, _, run_endRound none hr3, rfl, ⟨hI.putObj _ hi3 (by omega) hr3 rfl, World.putObj_heap_same hlt3, (World.putObj_heap_other (by omega)).trans hd3⟩, hKt (hKt (hKb _ _ _ _ (by omega) hr rfl) hkp) (hKb _ _ _ _ (by omega) hr3 rfl), ⟨Nat.le_trans (size_put _ _ _) (Nat.le_trans hk.size (size_put _ _ _)), fun i o hi ho hc => by
        by_cases hil : i = w.heap.size + 1
        · rw [hil] at ho ⊢; rw [hr] at ho; cases ho; exact World.putObj_heap_same hlt3
        · exact (World.putObj_heap_other hil).trans (hk.same i o hi ((World.putObj_heap_other hil).trans ho) hc)⟩⟩
    | ret => exact hp.2.elim
    | exit id => exact hp.2.elim
    | goto t => exact hp.2.elim
    | panic ch => exact hp.elim
    | outgrown => exact hp.elim
  case done =>
    rintro e W2 ⟨⟨v, rfl⟩, hi, hr, hd⟩
    exact ⟨none, _, run_endLoop hr (by simp), hdone _ _ (Nat.le_refl _) (hI.putObj _ hi (by omega) hr rfl) ((World.putObj_heap_other (by omega)).trans hd)⟩
end Go.Proofs.Ytdmdmbcapjmnlab
