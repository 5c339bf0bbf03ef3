/- Towards HeapPlays: the document's heap by what it holds. Towards HeapPlays: the document's Hold and Drop. -/
import Derived.Test.YtooblonafnlfcaaDoorDH
import Derived.Test.YtooblonafnlfcaaDoorPJ
section
namespace Go.Proofs.YtooblonafnlfcaaDoor
open Go.ChangeShapes Go.WideShapes Go.ChangeAt Go.RowKit
set_option linter.unusedVariables false
set_option linter.unusedSimpArgs false
set_option maxRecDepth 20000
def doOf (k : Nat) (o : Oj) : Do := ⟨k, o.g, o.k, o.c⟩
/-- The document's objects are those of M. -/
structure Mo (O : List Do) (M : MJ) : Prop where
  mem : ∀ x ∈ O, ∃ (k : Nat) (o : Oj), M k = some o ∧ x = doOf k o
  all : ∀ (k : Nat) (o : Oj), M k = some o → doOf k o ∈ O
  nd : (O.map (·.s)).Nodup
theorem Mo.nil : Mo [] (fun _ => none) := ⟨by simp, by simp, by simp⟩
theorem Mo.no {O : List Do} {M : MJ} (h : Mo O M) {s : Int} {g : Nat} (hL : liveB M s g = false) : ∀ x ∈ O, ¬ (x.s = s ∧ x.g = g) := by
  rintro x hx ⟨e1, e2⟩
  obtain ⟨k, o, hM, rfl⟩ := h.mem x hx
  simp only [doOf] at e1 e2
  subst e1 e2
  have := live_of hM
  unfold liveB at hL
  rw [hL] at this
  cases this
theorem Mo.same {O : List Do} {M : MJ} (h : Mo O M) {i j : Nat} {x y : Do} (hx : O[i]? = some x) (hy : O[j]? = some y) (e : x.s = y.s) : i = j := by
  have hi : (O.map (·.s))[i]? = some x.s := by simp [hx]
  have hj : (O.map (·.s))[j]? = some x.s := by simp [hy, e]
  obtain ⟨h1, e1⟩ := List.getElem?_eq_some_iff.1 hi
  obtain ⟨h2, e2⟩ := List.getElem?_eq_some_iff.1 hj
  have hnd := List.pairwise_iff_getElem.1 h.nd
  rcases Nat.lt_trichotomy i j with q | q | q
  · exact absurd (e1.trans e2.symm) (hnd i j h1 h2 q)
  · exact q
  · exact absurd (e2.trans e1.symm) (hnd j i h2 h1 q)
theorem Mo.yes {O : List Do} {M : MJ} (h : Mo O M) {k : Nat} {o : Oj} (hM : M k = some o) : ∃ j : Nat, O[j]? = some (doOf k o) ∧ ∀ (i : Nat) (x : Do), i < j → O[i]? = some x → ¬ (x.s = k ∧ x.g = o.g) := by
  obtain ⟨j, hj⟩ := List.getElem?_of_mem (h.all k o hM)
  refine ⟨j, hj, fun i x hi hx e => ?_⟩
  have := h.same hx hj e.1
  omega
theorem Mo.set {O : List Do} {M : MJ} (h : Mo O M) {k j : Nat} {o o' : Oj} (hM : M k = some o) (hj : O[j]? = some (doOf k o)) : Mo (O.set j (doOf k o')) (updM M k (some o')) := by
  obtain ⟨hjl, hje⟩ := List.getElem?_eq_some_iff.1 hj
  refine ⟨fun x hx => ?_, fun k' y e => ?_, ?_⟩
  · obtain ⟨i, hi⟩ := List.getElem?_of_mem hx
    by_cases e : j = i
    · subst e
      rw [List.getElem?_set_self hjl] at hi
      exact ⟨k, o', updM_self _ _ _, (Option.some.inj hi).symm⟩
    · rw [List.getElem?_set_ne e] at hi
      obtain ⟨k2, o2, h2, rfl⟩ := h.mem x (List.mem_of_getElem? hi)
      refine ⟨k2, o2, ?_, rfl⟩
      rw [updM_ne _ _ (fun e2 => e ?_)]
      · exact h2
      · subst e2; exact h.same hj hi rfl
  · by_cases e2 : k' = k
    · subst e2
      rw [updM_self] at e
      obtain rfl := Option.some.inj e
      exact List.mem_of_getElem? (List.getElem?_set_self hjl)
    · rw [updM_ne _ _ e2] at e
      obtain ⟨i, hi⟩ := List.getElem?_of_mem (h.all k' y e)
      have : j ≠ i := fun e3 => by
        subst e3
        rw [hj] at hi
        have := congrArg Do.s (Option.some.inj hi)
        simp only [doOf] at this
        omega
      exact List.mem_of_getElem? ((List.getElem?_set_ne this).trans hi)
  · have : (O.set j (doOf k o')).map (·.s) = O.map (·.s) := by
      rw [List.map_set]
      refine List.ext_getElem? fun i => ?_
      by_cases e : j = i
      · subst e
        rw [List.getElem?_set_self (by simpa using hjl), List.getElem?_map, hj]
        rfl
      · rw [List.getElem?_set_ne e]
    rw [this]; exact h.nd
theorem Mo.era {O : List Do} {M : MJ} (h : Mo O M) {k j : Nat} {o : Oj} (hM : M k = some o) (hj : O[j]? = some (doOf k o)) : Mo (O.take j ++ O.drop (j + 1)) (updM M k none) := by
  obtain ⟨hjl, hje⟩ := List.getElem?_eq_some_iff.1 hj
  have hmem : ∀ x, x ∈ O.take j ++ O.drop (j + 1) ↔ ∃ i, i ≠ j ∧ O[i]? = some x := fun x => by
    rw [List.mem_append]
    constructor
    · rintro (hx | hx)
      · obtain ⟨i, hi⟩ := List.getElem?_of_mem hx
        rw [List.getElem?_take] at hi
        split at hi
        · exact ⟨i, by omega, hi⟩
        · cases hi
      · obtain ⟨i, hi⟩ := List.getElem?_of_mem hx
        rw [List.getElem?_drop] at hi
        exact ⟨_, by omega, hi⟩
    · rintro ⟨i, hne, hi⟩
      by_cases hlt : i < j
      · left
        exact List.mem_of_getElem? (i := i) (by rw [List.getElem?_take, if_pos hlt]; exact hi)
      · right
        exact List.mem_of_getElem? (i := i - (j + 1)) (by rw [List.getElem?_drop, show j + 1 + (i - (j + 1)) = i by omega]; exact hi)
  refine ⟨fun x hx => ?_, fun k' y e => ?_, ?_⟩
  · obtain ⟨i, hne, hi⟩ := (hmem x).1 hx
    obtain ⟨k2, o2, h2, rfl⟩ := h.mem x (List.mem_of_getElem? hi)
    refine ⟨k2, o2, ?_, rfl⟩
    rw [updM_ne _ _ (fun e2 => hne ?_)]
    · exact h2
    · subst e2; exact h.same hi hj rfl
  · by_cases e2 : k' = k
    · subst e2; rw [updM_self] at e; cases e
    · rw [updM_ne _ _ e2] at e
      obtain ⟨i, hi⟩ := List.getElem?_of_mem (h.all k' y e)
      refine (hmem _).2 ⟨i, fun e3 => ?_, hi⟩
      subst e3
      rw [hj] at hi
      have := congrArg Do.s (Option.some.inj hi)
      simp only [doOf] at this
      omega
  · have : (O.take j ++ O.drop (j + 1)).map (·.s) = (O.map (·.s)).eraseIdx j := by
      rw [List.eraseIdx_eq_take_drop_succ]; simp
    rw [this]
    exact h.nd.sublist (List.eraseIdx_sublist _ _)
theorem Mo.app {O : List Do} {M : MJ} (h : Mo O M) {k : Nat} (hM : M k = none) (o : Oj) : Mo (O ++ [doOf k o]) (updM M k (some o)) := by
  refine ⟨fun x hx => ?_, fun k' y e => ?_, ?_⟩
  · rw [List.mem_append, List.mem_singleton] at hx
    rcases hx with hx | rfl
    · obtain ⟨k2, o2, h2, rfl⟩ := h.mem x hx
      refine ⟨k2, o2, ?_, rfl⟩
      rw [updM_ne _ _ (fun e2 => ?_)]
      · exact h2
      · subst e2; rw [hM] at h2; cases h2
    · exact ⟨k, o, updM_self _ _ _, rfl⟩
  · rw [List.mem_append, List.mem_singleton]
    by_cases e2 : k' = k
    · subst e2
      rw [updM_self] at e
      obtain rfl := Option.some.inj e
      exact .inr rfl
    · rw [updM_ne _ _ e2] at e
      exact .inl (h.all k' y e)
  · rw [List.map_append, List.nodup_append]
    refine ⟨h.nd, by simp, fun a ha b hb e => ?_⟩
    simp only [List.map_cons, List.map_nil, List.mem_singleton] at hb
    subst hb
    subst e
    obtain ⟨x, hx, e1⟩ := List.mem_map.1 ha
    obtain ⟨k2, o2, h2, rfl⟩ := h.mem x hx
    simp only [doOf] at e1
    have : k2 = k := by omega
    subst this
    rw [hM] at h2; cases h2
theorem Mo.bytes {O : List Do} {M : MJ} (h : Mo O M) {k : Nat} {o o' : Oj} (hM : M k = some o) (e : doOf k o' = doOf k o) : Mo O (updM M k (some o')) := by
  obtain ⟨j, hj⟩ := List.getElem?_of_mem (h.all k o hM)
  have := h.set (o' := o') hM hj
  rw [e] at this
  obtain ⟨hjl, hje⟩ := List.getElem?_eq_some_iff.1 hj
  rwa [← hje, List.set_getElem_self] at this
def bM (M : MJ) : Nat → Option (List Int) := fun k => (M k).map (·.bs)
theorem bM_upd (M : MJ) (k : Nat) (x : Option Oj) : bM (updM M k x) = updD (bM M) k (x.map (·.bs)) := by
  funext s
  by_cases e : s = k
  · subst e; simp [bM, updM, updD]
  · simp only [bM, updM, updD, if_neg e]
theorem bM_same {M : MJ} {k : Nat} {o o' : Oj} (hM : M k = some o) (e : o'.bs = o.bs) : bM (updM M k (some o')) = bM M := by
  rw [bM_upd]
  funext s
  by_cases e2 : s = k
  · subst e2; simp [bM, updD, hM, e]
  · simp only [updD, if_neg e2]
/-- The document's heap at block b: its slab at r, its table at t. -/
structure Oh (w : World) (B b r t : Nat) (room u : Int) (M : MJ) (N : Int → Nat) (O : List Do) (X : List H.HKey) (vO vS vX vT : Value) (n : Nat) : Prop where
  cells : w.heap[b]? = some (.cells #[.pointer (some ⟨r, 0, none⟩), .pointer (some ⟨t, 0, none⟩), vO] 50 (0, 0))
  bB : B ≤ b
  row : w.ownsRow B 45 4 vO O.length (oCells O)
  len : O.length ≤ n
  sl : Rm w B r room (bM M) u vS n
  tb : H.Bo w B t N (lOf M) X vX vT n
  mo : Mo O M
  nn : n ≤ 900
/-- What a call of it leaves. -/
structure Fo (B b r t : Nat) (vO vS vX vT : Value) (w w' : World) : Prop where
  bel : Below B w w'
  keep : ∀ k, k < w.heap.size → k ≠ b → k ≠ r → k ≠ t → some k ≠ vO.ownBlock → some k ≠ vS.ownBlock → some k ≠ vX.ownBlock → some k ≠ vT.ownBlock → w'.heap[k]? = w.heap[k]?
theorem Fo.of {B b r t : Nat} {vO vS vX vT : Value} {w w' : World} (h : Below w.heap.size w w') (hB : B ≤ w.heap.size) : Fo B b r t vO vS vX vT w w' := ⟨h.mono hB, fun k hk _ _ _ _ _ _ _ => h.block k hk⟩
theorem Fo.ofS {B b r t : Nat} {vO vS vX vT : Value} {w w' : World} (h : Fd B r vS w w') : Fo B b r t vO vS vX vT w w' := ⟨h.bel, fun k hk _ h1 _ _ h2 _ _ => h.keep k hk h1 h2⟩
theorem Fo.ofT {B b r t : Nat} {vO vS vX vT : Value} {w w' : World} (h : H.Fx B t vX vT w w') : Fo B b r t vO vS vX vT w w' := ⟨h.bel, fun k hk _ _ h1 _ _ h2 h3 => h.keep k hk h1 h2 h3⟩
theorem Oh.size {w : World} {B b r t : Nat} {room u : Int} {M : MJ} {N : Int → Nat} {O : List Do} {X : List H.HKey} {vO vS vX vT : Value} {n : Nat} (h : Oh w B b r t room u M N O X vO vS vX vT n) : B ≤ w.heap.size := Nat.le_trans h.bB (Nat.le_of_lt (heap_lt h.cells))
theorem Oh.below {w w' : World} {B b r t : Nat} {room u : Int} {M : MJ} {N : Int → Nat} {O : List Do} {X : List H.HKey} {vO vS vX vT : Value} {n : Nat} (h : Oh w B b r t room u M N O X vO vS vX vT n) (hb : Below w.heap.size w w') : Oh w' B b r t room u M N O X vO vS vX vT n := by
  obtain ⟨T, h1, h2, h3⟩ := h.tb.ex
  exact ⟨(hb.block _ (heap_lt h.cells)).trans h.cells, h.bB, row_kept h.row (fun g hg => hb.block _ (by obtain ⟨c, e⟩ := row_cells h.row hg; exact heap_lt e)), h.len, h.sl.below hb, ⟨⟨T, h1.below hb, h2, h3⟩, h.tb.mt⟩, h.mo, h.nn⟩
theorem Oh.more {w : World} {B b r t : Nat} {room u : Int} {M : MJ} {N : Int → Nat} {O : List Do} {X : List H.HKey} {vO vS vX vT : Value} {n n' : Nat} (h : Oh w B b r t room u M N O X vO vS vX vT n) (e : n ≤ n') (hn : n' ≤ 900) : Oh w B b r t room u M N O X vO vS vX vT n' := by
  obtain ⟨T, h1, h2, h3⟩ := h.tb.ex
  obtain ⟨S, s1, s2, s3, s4⟩ := h.sl.ex
  exact ⟨h.cells, h.bB, h.row, Nat.le_trans h.len e, ⟨S, s1, s2, s3, Nat.le_trans s4 e⟩, ⟨⟨T, h1, h2, Nat.le_trans h3 e⟩, h.tb.mt⟩, h.mo, hn⟩
/-- The blocks of the document's heap, by their types. -/
theorem Oh.byT {w w' : World} {B b r t : Nat} {room u : Int} {M : MJ} {N : Int → Nat} {O : List Do} {X : List H.HKey} {vO vS vX vT : Value} {n : Nat} (h : Oh w B b r t room u M N O X vO vS vX vT n)
    (hk : ∀ (k : Nat) (cs : Array Value) (t : TypeId), (t = 50 ∨ t = 45 ∨ t = 80 ∨ t = 92 ∨ t = 54 ∨ t = 34) → w.heap[k]? = some (.cells cs t (0, 0)) → w'.heap[k]? = some (.cells cs t (0, 0))) : Oh w' B b r t room u M N O X vO vS vX vT n := by
  obtain ⟨T, h1, h2, h3⟩ := h.tb.ex
  obtain ⟨S, s1, s2, s3, s4⟩ := h.sl.ex
  have hrow : ∀ {t' sz n' : Nat} {v : Value} {xs : List Value}, (t' = 50 ∨ t' = 45 ∨ t' = 80 ∨ t' = 92 ∨ t' = 54 ∨ t' = 34) → w.ownsRow B t' sz v n' xs → w'.ownsRow B t' sz v n' xs := fun ht hr => row_kept hr (fun g hg => by
    obtain ⟨c, e⟩ := row_cells hr hg
    rw [e]; exact hk _ _ _ ht e)
  exact ⟨hk _ _ _ (by simp) h.cells, h.bB, hrow (by simp) h.row, h.len, ⟨S, ⟨hk _ _ _ (by simp) s1.cells, s1.rB, hrow (by simp) s1.row, s1.len, s1.bs⟩, s2, s3, s4⟩, ⟨⟨T, ⟨hk _ _ _ (by simp) h1.cells, h1.rB, hrow (by simp) h1.rowX, hrow (by simp) h1.rowT, h1.apart, h1.lenX, h1.lenT⟩, h2, h3⟩, h.tb.mt⟩, h.mo, h.nn⟩
/-- A call of the program's heap keeps it. -/
theorem Oh.fq {Yo : Nat → Prop} {w w' : World} {B b r t : Nat} {room u : Int} {M : MJ} {N : Int → Nat} {O : List Do} {X : List H.HKey} {vO vS vX vT : Value} {n : Nat} (h : Oh w B b r t room u M N O X vO vS vX vT n) {C : Nat} {q : HQ} {room' used : Int} {N' : Int → Nat} {M' : MJ} {ns : Nat} {A K : Nat → Nat} {n' : Nat} (hp : Hp Yo w C q room' used N' M' ns A K n') (hF : Fq Yo C q w w') : Oh w' B b r t room u M N O X vO vS vX vT n := by
  refine h.byT fun k cs t' ht ho => ?_
  obtain ⟨cS, eS⟩ := hp.sl.cellsS
  obtain ⟨F, hF1, _⟩ := hp.tb.im1
  refine hF.keep k _ ?_ ?_ ?_ ?_ ho ?_ ?_ ?_
  · rintro rfl; rw [eS] at ho; cases ho; simp at ht
  · rintro rfl; exact hF1.notc ho
  · rintro rfl; exact hp.tb.im2.notc ho
  · rintro rfl; exact hp.ow.im.notc ho
  · intro cs z e; cases e; simp at ht
  · intro cs z e; cases e; simp at ht
  · intro cs z e; cases e; simp at ht
/-- What is not of the document's heap is as it was. -/
theorem Fo.other {w w' : World} {B b r t : Nat} {room u : Int} {M : MJ} {N : Int → Nat} {O : List Do} {X : List H.HKey} {vO vS vX vT : Value} {n : Nat} (h : Oh w B b r t room u M N O X vO vS vX vT n) (hF : Fo B b r t vO vS vX vT w w') {k : Nat} {o : Obj} (ho : w.heap[k]? = some o) (hne : ∀ cs t', (t' = 50 ∨ t' = 45 ∨ t' = 80 ∨ t' = 92 ∨ t' = 54 ∨ t' = 34) → o ≠ .cells cs t' (0, 0)) : w'.heap[k]? = some o := by
  obtain ⟨T, h1, h2, h3⟩ := h.tb.ex
  obtain ⟨S, s1, s2, s3, s4⟩ := h.sl.ex
  have hr : ∀ {t' sz n' : Nat} {v : Value} {xs : List Value}, (t' = 50 ∨ t' = 45 ∨ t' = 80 ∨ t' = 92 ∨ t' = 54 ∨ t' = 34) → w.ownsRow B t' sz v n' xs → some k ≠ v.ownBlock := fun ht hr e => by
    obtain ⟨c, e2⟩ := row_cells hr e.symm
    rw [ho] at e2
    exact hne _ _ ht (Option.some.inj e2)
  rw [hF.keep k (heap_lt ho) ?_ ?_ ?_ (hr (by simp) h.row) (hr (by simp) s1.row) (hr (by simp) h1.rowX) (hr (by simp) h1.rowT)]
  · exact ho
  · rintro rfl; rw [h.cells] at ho; exact hne _ _ (by simp) (Option.some.inj ho).symm
  · rintro rfl; rw [s1.cells] at ho; exact hne _ _ (by simp) (Option.some.inj ho).symm
  · rintro rfl; rw [h1.cells] at ho; exact hne _ _ (by simp) (Option.some.inj ho).symm
/-- A call of the document's heap keeps the program's. -/
theorem Hp.fo {Yo : Nat → Prop} {w w' : World} {B b r t : Nat} {room u : Int} {M : MJ} {N : Int → Nat} {O : List Do} {X : List H.HKey} {vO vS vX vT : Value} {n : Nat} (h : Oh w B b r t room u M N O X vO vS vX vT n) (hF : Fo B b r t vO vS vX vT w w') {C : Nat} {q : HQ} {room' used : Int} {N' : Int → Nat} {M' : MJ} {ns : Nat} {A K : Nat → Nat} {n' : Nat} (hp : Hp Yo w C q room' used N' M' ns A K n') : Hp Yo w' C q room' used N' M' ns A K n' := by
  have key : ∀ {k : Nat} {o : Obj}, w.heap[k]? = some o → (∀ cs t', (t' = 50 ∨ t' = 45 ∨ t' = 80 ∨ t' = 92 ∨ t' = 54 ∨ t' = 34) → o ≠ .cells cs t' (0, 0)) → w'.heap[k]? = some o := fun ho hne => hF.other h ho hne
  refine ⟨?_, ?_, ?_, hp.us, hp.ne1, hp.ne2, hp.nn, hp.n5, hp.yo⟩
  · obtain ⟨es, c, h1, h2⟩ := hp.ow.im
    exact ⟨hp.ow.bB, key hp.ow.cells (by rintro cs t' ht e; cases e; simp at ht), hp.ow.b3, ⟨es, c, key h1 (by rintro cs t' ht e; cases e), h2⟩, fun k o e => by
      obtain ⟨a, b, c⟩ := hp.ow.ob k o e
      exact ⟨a, key b (by rintro cs t' ht e; cases e; simp at ht), c⟩, hp.ow.ap⟩
  · exact hp.sl.byT hF.bel.size fun k cs t' z ht ho => key ho (by rintro cs' t2 ht2 e; cases e; rcases ht with rfl | rfl | rfl <;> simp at ht2)
  · refine tb_byK hp.tb fun k o ho hm => key ho ?_
    rintro cs t2 ht2 rfl
    rcases hm with ⟨_, hm⟩ | ⟨cs, z, e⟩
    · exact hm _ _ _ rfl
    · cases e; simp at ht2
end Go.Proofs.YtooblonafnlfcaaDoor
end
section
namespace Go.Proofs.YtooblonafnlfcaaDoor
open Go.ChangeShapes Go.WideShapes Go.ChangeAt Go.RowKit
set_option linter.unusedVariables false
set_option linter.unusedSimpArgs false
set_option maxRecDepth 20000
section
variable {w : World} {B b r t : Nat} {room u : Int} {M : MJ} {N : Int → Nat} {O : List Do} {X : List H.HKey} {vO vS vX vT : Value} {n : Nat}
theorem oh_no (h : Oh w B b r t room u M N O X vO vS vX vT n) {s : Int} {g : Nat} (hL : liveB M s g = false) :
    Calls Tryd.prog 18 #[.pointer (some ⟨b, 0, none⟩), .agg #[.int .i64 s, .int .u64 g]] w fun e w' => e = .returned (.int .i64 (-1)) ∧ Below w.heap.size w w' :=
  oat_no w B b r t vO O h.cells h.row (by have := h.len; have := h.nn; omega) s g (h.mo.no hL)
theorem oh_yes (h : Oh w B b r t room u M N O X vO vS vX vT n) {k j : Nat} {o : Oj} (hj : O[j]? = some (doOf k o)) (hd : ∀ (i : Nat) (x : Do), i < j → O[i]? = some x → ¬ (x.s = k ∧ x.g = o.g)) :
    Calls Tryd.prog 18 #[.pointer (some ⟨b, 0, none⟩), .agg #[.int .i64 k, .int .u64 o.g]] w fun e w' => e = .returned (.int .i64 j) ∧ Below w.heap.size w w' :=
  oat_yes w B b r t vO O h.cells h.row (by have := h.len; have := h.nn; omega) k o.g j (List.getElem?_eq_some_iff.1 hj).1 _ hj ⟨rfl, rfl⟩ hd
theorem oCells_set : ∀ (l : List Do) (j : Nat) (x : Do), ((((oCells l).set (j * 4) (.int .i64 x.s)).set (j * 4 + 1) (.int .u64 x.g)).set (j * 4 + 2) (.int .i64 x.k)).set (j * 4 + 3) (.int .i64 x.c) = oCells (l.set j x)
  | [], j, x => by simp [oCells]
  | y :: l, 0, x => by simp [oCells]
  | y :: l, j + 1, x => by
    rw [show (j + 1) * 4 = j * 4 + 1 + 1 + 1 + 1 by omega]
    simp only [oCells, List.set_cons_succ]
    rw [oCells_set l j x]
theorem Oh.putO {W W4 : World} (h : Oh W B b r t room u M N O X vO vS vX vT n) {g k j : Nat} {o : Oj} (hg : vO.ownBlock = some g) (hM : M k = some o) (hj : O[j]? = some (doOf k o)) (c' : Int)
    (e4 : W4 = (((W.setCell ⟨g, j * 4, none⟩ (.int .i64 k)).setCell ⟨g, j * 4 + 1, none⟩ (.int .u64 o.g)).setCell ⟨g, j * 4 + 2, none⟩ (.int .i64 o.k)).setCell ⟨g, j * 4 + 3, none⟩ (.int .i64 c')) :
    Oh W4 B b r t room u (updM M k (some { o with c := c' })) N (O.set j (doOf k { o with c := c' })) X vO vS vX vT n ∧ Fo B b r t vO vS vX vT W W4 ∧ (∀ i, i ≠ g → W4.heap[i]? = W.heap[i]?) := by
  have hk : ∀ i, i ≠ g → W4.heap[i]? = W.heap[i]? := fun i hi => by
    rw [e4, Below.heap_setCell _ _ _ _ hi, Below.heap_setCell _ _ _ _ hi, Below.heap_setCell _ _ _ _ hi, Below.heap_setCell _ _ _ _ hi]
  obtain ⟨cg, eg⟩ := row_cells h.row hg
  have hgB := (h.row.lt g hg).1
  have hkt : ∀ {i : Nat} {cs : Array Value} {t' : TypeId}, t' ≠ 45 → W.heap[i]? = some (.cells cs t' (0, 0)) → W4.heap[i]? = some (.cells cs t' (0, 0)) := fun ht e => by
    rw [hk _ (by rintro rfl; rw [eg] at e; cases e; exact ht rfl)]; exact e
  have hrt : ∀ {t' sz n' : Nat} {v : Value} {xs : List Value}, t' ≠ 45 → W.ownsRow B t' sz v n' xs → W4.ownsRow B t' sz v n' xs := fun ht hr => row_kept hr (fun g' hg' => by
    obtain ⟨c, e⟩ := row_cells hr hg'
    rw [e]; exact hkt ht e)
  obtain ⟨T, h1, h2, h3⟩ := h.tb.ex
  obtain ⟨S, s1, s2, s3, s4⟩ := h.sl.ex
  have hlo : lOf (updM M k (some { o with c := c' })) = lOf M := lOf_upd hM rfl
  refine ⟨⟨hkt (by decide) h.cells, h.bB, ?_, by simpa using h.len, ⟨S, ⟨hkt (by decide) s1.cells, s1.rB, hrt (by decide) s1.row, s1.len, s1.bs⟩, ?_, s3, s4⟩, ⟨⟨T, ⟨hkt (by decide) h1.cells, h1.rB, hrt (by decide) h1.rowX, hrt (by decide) h1.rowT, h1.apart, h1.lenX, h1.lenT⟩, h2, h3⟩, ?_⟩, h.mo.set hM hj, h.nn⟩, ⟨?_, fun i hi _ _ _ hO _ _ _ => hk i (by rintro rfl; exact hO hg.symm)⟩, hk⟩
  · have := H.row_set (i := j * 4 + 3) (u := .int .i64 c') (H.row_set (i := j * 4 + 2) (u := .int .i64 o.k) (H.row_set (i := j * 4 + 1) (u := .int .u64 o.g) (H.row_set (i := j * 4) (u := .int .i64 k) h.row hg) hg) hg) hg
    have e := oCells_set O j (doOf k { o with c := c' })
    simp only [doOf] at e
    rw [e] at this
    rw [e4, List.length_set]
    exact this
  · rw [bM_same hM (o' := { o with c := c' }) rfl]; exact s2
  · rw [hlo]; exact h.tb.mt
  · rw [e4]; exact ((((Below.refl B W).setCell hgB _).setCell hgB _).setCell hgB _).setCell hgB _
theorem rhold_no (h : Oh w B b r t room u M N O X vO vS vX vT n) {s : Int} {g : Nat} (hL : liveB M s g = false) :
    Calls Tryd.prog 36 #[.pointer (some ⟨b, 0, none⟩), .agg #[.int .i64 s, .int .u64 g]] w fun e w' => e = .returned (.tuple #[.int .i64 0, .int .i64 130]) ∧ Below w.heap.size w w' := by
  have hb0 := (Below.refl _ w).alloc (Nat.le_refl _) (.cells #[.int .i64 s, .int .u64 g] 34)
  have k1 := oh_no (h.below hb0) hL
  go_enter Tryd.func36, Tryd.ntmps36
  go_wp2_with (go_at_call 18; refine k1.mono ?_; rintro e w1 ⟨rfl, hb⟩)
  all_goals go_returns
  all_goals exact ⟨rfl, hb0.trans (hb.mono (by simp))⟩
theorem rdropc_no (h : Oh w B b r t room u M N O X vO vS vX vT n) {s : Int} {g : Nat} (hL : liveB M s g = false) :
    Calls Tryd.prog 37 #[.pointer (some ⟨b, 0, none⟩), .agg #[.int .i64 s, .int .u64 g]] w fun e w' => e = .returned (.tuple #[.int .i64 0, .int .i64 130]) ∧ Below w.heap.size w w' := by
  have hb0 := (Below.refl _ w).alloc (Nat.le_refl _) (.cells #[.int .i64 s, .int .u64 g] 34)
  have k1 := oh_no (h.below hb0) hL
  go_enter Tryd.func37, Tryd.ntmps37
  go_wp2_with (go_at_call 18; refine k1.mono ?_; rintro e w1 ⟨rfl, hb⟩)
  all_goals go_returns
  all_goals exact ⟨rfl, hb0.trans (hb.mono (by simp))⟩
theorem rdropc_zero (h : Oh w B b r t room u M N O X vO vS vX vT n) {k : Nat} {o : Oj} (hM : M k = some o) (hc : o.c = 0) :
    Calls Tryd.prog 37 #[.pointer (some ⟨b, 0, none⟩), .agg #[.int .i64 k, .int .u64 o.g]] w fun e w' => e = .returned (.tuple #[.int .i64 0, .int .i64 3]) ∧ Below w.heap.size w w' := by
  obtain ⟨j, hj, hd⟩ := h.mo.yes hM
  have hjl := (List.getElem?_eq_some_iff.1 hj).1
  have hb0 := (Below.refl _ w).alloc (Nat.le_refl _) (.cells #[.int .i64 k, .int .u64 o.g] 34)
  have h0 := h.below hb0
  have k1 := oh_yes h0 hj hd
  have hl := h.len
  have hn := h.nn
  have dk : decide ((j : Int) < 0) = false := decide_eq_false (by omega)
  go_enter Tryd.func37, Tryd.ntmps37
  go_upto_region 2 with (go_at_call 18; refine k1.mono ?_; rintro e w1 ⟨rfl, hb1⟩)
  have h1 := h0.below hb1
  have hbw : Below w.heap.size w w1 := hb0.trans (hb1.mono (by simp))
  obtain ⟨p, c, rfl⟩ : ∃ p cap, vO = .slice p O.length cap := H.own_shape h1.row
  have c2 : w1.cell? ⟨b, 2, none⟩ = some (.slice p O.length c) := by rw [cell_of h1.cells]; rfl
  obtain ⟨g, x, hx, hgl, hgo, hc0, hc1, hc2, hc3, hai⟩ := idx45 h1.row hjl (by omega)
  rw [hj] at hx
  obtain rfl := Option.some.inj hx
  simp only [doOf] at hc0 hc1 hc2 hc3
  rw [hc] at hc3
  clear k1 hd hx
  go_wp2
  all_goals go_returns
  all_goals exact ⟨rfl, hbw.alloc hbw.size _⟩
set_option maxHeartbeats 2000000 in
theorem rhold_ok (h : Oh w B b r t room u M N O X vO vS vX vT n) {k : Nat} {o : Oj} (hM : M k = some o) (hc : 0 ≤ o.c ∧ o.c ≤ 100000) :
    Calls Tryd.prog 36 #[.pointer (some ⟨b, 0, none⟩), .agg #[.int .i64 k, .int .u64 o.g]] w fun e w' => e = .returned (.tuple #[.int .i64 (o.c + 1), .int .i64 0]) ∧ (∃ O', Oh w' B b r t room u (updM M k (some { o with c := o.c + 1 })) N O' X vO vS vX vT n) ∧ Fo B b r t vO vS vX vT w w' := by
  obtain ⟨j, hj, hd⟩ := h.mo.yes hM
  have hjl := (List.getElem?_eq_some_iff.1 hj).1
  have hb0 := (Below.refl _ w).alloc (Nat.le_refl _) (.cells #[.int .i64 k, .int .u64 o.g] 34)
  have h0 := h.below hb0
  have k1 := oh_yes h0 hj hd
  have hl := h.len
  have hn := h.nn
  have hBw := h.size
  have dk : decide ((j : Int) < 0) = false := decide_eq_false (by omega)
  have e9 : IntKind.i64.wrap (o.c + 1) = o.c + 1 := IntWalk.i64_in _ (by omega)
  go_enter Tryd.func36, Tryd.ntmps36
  go_upto_region 2 with (go_at_call 18; refine k1.mono ?_; rintro e w1 ⟨rfl, hb1⟩)
  have h1 := h0.below hb1
  have hbw : Below w.heap.size w w1 := hb0.trans (hb1.mono (by simp))
  obtain ⟨p, c, rfl⟩ : ∃ p cap, vO = .slice p O.length cap := H.own_shape h1.row
  have c2 : w1.cell? ⟨b, 2, none⟩ = some (.slice p O.length c) := by rw [cell_of h1.cells]; rfl
  obtain ⟨g, x, hx, hgl, hgo, hc0, hc1, hc2, hc3, hai⟩ := idx45 h1.row hjl (by omega)
  rw [hj] at hx
  obtain rfl := Option.some.inj hx
  simp only [doOf] at hc0 hc1 hc2 hc3
  clear k1 hd hx
  go_upto_region 5 with fail
  have hz := heap_alloc_new w1 (.cells #[.int .i64 k, .int .u64 o.g, .int .i64 o.k, .int .i64 o.c] 45)
  have hbz := (Below.refl _ w1).alloc (Nat.le_refl _) (.cells #[.int .i64 k, .int .u64 o.g, .int .i64 o.k, .int .i64 o.c] 45)
  have hsz := hbw.size
  clear c2 hc0 hc1 hc2 hc3
  generalize w1.alloc (.cells #[.int .i64 k, .int .u64 o.g, .int .i64 o.k, .int .i64 o.c] 45) = W at hz hbz ⊢
  generalize hzq : w1.heap.size = z at hz hbz hgl hsz ⊢
  have y0 := cell_of hz 3
  have y1 := froz_of hz 3
  simp at y0
  go_upto_region 6 with fail
  have hz2 : (W.setCell ⟨z, 3, none⟩ (.int .i64 (o.c + 1))).heap[z]? = some (.cells #[.int .i64 k, .int .u64 o.g, .int .i64 o.k, .int .i64 (o.c + 1)] 45 (0, 0)) := by
    have := heap_setCell_same W z 3 _ _ (.int .i64 (o.c + 1)) hz
    simpa using this
  have hb2 : Below z w1 (W.setCell ⟨z, 3, none⟩ (.int .i64 (o.c + 1))) := hbz.setCell (Nat.le_refl _) _
  clear y0 y1 hz hbz
  generalize W.setCell ⟨z, 3, none⟩ (.int .i64 (o.c + 1)) = W2 at hz2 hb2 ⊢
  have h2 := h1.below (w' := W2) (by rw [hzq]; exact hb2)
  replace hzq : Hid _ := hzq
  have c2 : W2.cell? ⟨b, 2, none⟩ = some (.slice p O.length c) := by rw [cell_of h2.cells]; rfl
  have x0 := cell_of hz2 0
  have x1 := cell_of hz2 1
  have x2 := cell_of hz2 2
  have x3 := cell_of hz2 3
  simp at x0 x1 x2 x3
  obtain ⟨cur, hcur⟩ := row_cells h2.row hgo
  have fr0 := froz_of hcur (j * 4)
  have fr1 := froz_of hcur (j * 4 + 1)
  have fr2 := froz_of hcur (j * 4 + 2)
  have fr3 := froz_of hcur (j * 4 + 3)
  obtain ⟨g', x', hx', hgl', hgo', hd0, hd1, hd2, hd3, -⟩ := idx45 h2.row hjl (by omega)
  have hgg : g' = g := by rw [hgo] at hgo'; cases hgo'; rfl
  rw [hgg] at hd0 hd1 hd2 hd3
  clear hgg hgo' hgl' hx'
  go_region
  obtain ⟨W4, e4⟩ : ∃ W4, W4 = (((W2.setCell ⟨g, j * 4, none⟩ (.int .i64 k)).setCell ⟨g, j * 4 + 1, none⟩ (.int .u64 o.g)).setCell ⟨g, j * 4 + 2, none⟩ (.int .i64 o.k)).setCell ⟨g, j * 4 + 3, none⟩ (.int .i64 (o.c + 1)) := ⟨_, rfl⟩
  obtain ⟨hR, hF, hk4⟩ := h2.putO hgo hM hj (o.c + 1) e4
  have hz4 : W4.heap[z]? = some (.cells #[.int .i64 k, .int .u64 o.g, .int .i64 o.k, .int .i64 (o.c + 1)] 45 (0, 0)) := (hk4 z (by omega)).trans hz2
  have hF2 : Fo B b r t (.slice p O.length c) vS vX vT w W4 := by
    have hbW : Below w.heap.size w W2 := hbw.trans (hb2.mono hsz)
    refine ⟨(hbW.mono hBw).trans hF.bel, fun i hi a1 a2 a3 a4 a5 a6 a7 => (hF.keep i (Nat.lt_of_lt_of_le hi hbW.size) a1 a2 a3 a4 a5 a6 a7).trans (hbW.block i hi)⟩
  rw [← e4]
  clear x0 x1 x2 x3 c2 fr0 fr1 fr2 fr3 hd0 hd1 hd2 hd3 e4 hcur
  replace hR := hR.below (Below.refl _ _).drew
  replace hF2 : Fo B b r t (.slice p O.length c) vS vX vT w W4.drew := ⟨hF2.bel.drew, hF2.keep⟩
  have x3 : W4.drew.cell? ⟨z, 3, none⟩ = some (.int .i64 (o.c + 1)) := by have := cell_of hz4 3; simpa using this
  clear hz4 hk4 hF
  generalize W4.drew = W5 at hR hF2 x3 ⊢
  go_wp2
  all_goals go_returns
  all_goals exact ⟨rfl, ⟨_, hR⟩, hF2⟩
set_option maxHeartbeats 2000000 in
theorem rdropc_ok (h : Oh w B b r t room u M N O X vO vS vX vT n) {k : Nat} {o : Oj} (hM : M k = some o) (hc : 0 < o.c ∧ o.c ≤ 100000) :
    Calls Tryd.prog 37 #[.pointer (some ⟨b, 0, none⟩), .agg #[.int .i64 k, .int .u64 o.g]] w fun e w' => e = .returned (.tuple #[.int .i64 (o.c - 1), .int .i64 0]) ∧ (∃ O', Oh w' B b r t room u (updM M k (some { o with c := o.c - 1 })) N O' X vO vS vX vT n) ∧ Fo B b r t vO vS vX vT w w' := by
  obtain ⟨j, hj, hd⟩ := h.mo.yes hM
  have hjl := (List.getElem?_eq_some_iff.1 hj).1
  have hb0 := (Below.refl _ w).alloc (Nat.le_refl _) (.cells #[.int .i64 k, .int .u64 o.g] 34)
  have h0 := h.below hb0
  have k1 := oh_yes h0 hj hd
  have hl := h.len
  have hn := h.nn
  have hBw := h.size
  have dk : decide ((j : Int) < 0) = false := decide_eq_false (by omega)
  have e9 : IntKind.i64.wrap (o.c - 1) = o.c - 1 := IntWalk.i64_in _ (by omega)
  have dc : (o.c == 0) = false := by simp; omega
  go_enter Tryd.func37, Tryd.ntmps37
  go_upto_region 2 with (go_at_call 18; refine k1.mono ?_; rintro e w1 ⟨rfl, hb1⟩)
  have h1 := h0.below hb1
  have hbw : Below w.heap.size w w1 := hb0.trans (hb1.mono (by simp))
  obtain ⟨p, c, rfl⟩ : ∃ p cap, vO = .slice p O.length cap := H.own_shape h1.row
  have c2 : w1.cell? ⟨b, 2, none⟩ = some (.slice p O.length c) := by rw [cell_of h1.cells]; rfl
  obtain ⟨g, x, hx, hgl, hgo, hc0, hc1, hc2, hc3, hai⟩ := idx45 h1.row hjl (by omega)
  rw [hj] at hx
  obtain rfl := Option.some.inj hx
  simp only [doOf] at hc0 hc1 hc2 hc3
  clear k1 hd hx
  go_upto_region 5 with fail
  have hz := heap_alloc_new w1 (.cells #[.int .i64 k, .int .u64 o.g, .int .i64 o.k, .int .i64 o.c] 45)
  have hbz := (Below.refl _ w1).alloc (Nat.le_refl _) (.cells #[.int .i64 k, .int .u64 o.g, .int .i64 o.k, .int .i64 o.c] 45)
  have hsz := hbw.size
  clear c2 hc0 hc1 hc2 hc3
  generalize w1.alloc (.cells #[.int .i64 k, .int .u64 o.g, .int .i64 o.k, .int .i64 o.c] 45) = W at hz hbz ⊢
  generalize hzq : w1.heap.size = z at hz hbz hgl hsz ⊢
  have y0 := cell_of hz 3
  have y1 := froz_of hz 3
  simp at y0
  go_upto_region 8 with fail
  have hz2 : (W.setCell ⟨z, 3, none⟩ (.int .i64 (o.c - 1))).heap[z]? = some (.cells #[.int .i64 k, .int .u64 o.g, .int .i64 o.k, .int .i64 (o.c - 1)] 45 (0, 0)) := by
    have := heap_setCell_same W z 3 _ _ (.int .i64 (o.c - 1)) hz
    simpa using this
  have hb2 : Below z w1 (W.setCell ⟨z, 3, none⟩ (.int .i64 (o.c - 1))) := hbz.setCell (Nat.le_refl _) _
  clear y0 y1 hz hbz
  generalize W.setCell ⟨z, 3, none⟩ (.int .i64 (o.c - 1)) = W2 at hz2 hb2 ⊢
  have h2 := h1.below (w' := W2) (by rw [hzq]; exact hb2)
  replace hzq : Hid _ := hzq
  have c2 : W2.cell? ⟨b, 2, none⟩ = some (.slice p O.length c) := by rw [cell_of h2.cells]; rfl
  have x0 := cell_of hz2 0
  have x1 := cell_of hz2 1
  have x2 := cell_of hz2 2
  have x3 := cell_of hz2 3
  simp at x0 x1 x2 x3
  obtain ⟨cur, hcur⟩ := row_cells h2.row hgo
  have fr0 := froz_of hcur (j * 4)
  have fr1 := froz_of hcur (j * 4 + 1)
  have fr2 := froz_of hcur (j * 4 + 2)
  have fr3 := froz_of hcur (j * 4 + 3)
  obtain ⟨g', x', hx', hgl', hgo', hd0, hd1, hd2, hd3, -⟩ := idx45 h2.row hjl (by omega)
  have hgg : g' = g := by rw [hgo] at hgo'; cases hgo'; rfl
  rw [hgg] at hd0 hd1 hd2 hd3
  clear hgg hgo' hgl' hx'
  go_region
  obtain ⟨W4, e4⟩ : ∃ W4, W4 = (((W2.setCell ⟨g, j * 4, none⟩ (.int .i64 k)).setCell ⟨g, j * 4 + 1, none⟩ (.int .u64 o.g)).setCell ⟨g, j * 4 + 2, none⟩ (.int .i64 o.k)).setCell ⟨g, j * 4 + 3, none⟩ (.int .i64 (o.c - 1)) := ⟨_, rfl⟩
  obtain ⟨hR, hF, hk4⟩ := h2.putO hgo hM hj (o.c - 1) e4
  have hz4 : W4.heap[z]? = some (.cells #[.int .i64 k, .int .u64 o.g, .int .i64 o.k, .int .i64 (o.c - 1)] 45 (0, 0)) := (hk4 z (by omega)).trans hz2
  have hF2 : Fo B b r t (.slice p O.length c) vS vX vT w W4 := by
    have hbW : Below w.heap.size w W2 := hbw.trans (hb2.mono hsz)
    refine ⟨(hbW.mono hBw).trans hF.bel, fun i hi a1 a2 a3 a4 a5 a6 a7 => (hF.keep i (Nat.lt_of_lt_of_le hi hbW.size) a1 a2 a3 a4 a5 a6 a7).trans (hbW.block i hi)⟩
  rw [← e4]
  clear x0 x1 x2 x3 c2 fr0 fr1 fr2 fr3 hd0 hd1 hd2 hd3 e4 hcur
  replace hR := hR.below (Below.refl _ _).drew
  replace hF2 : Fo B b r t (.slice p O.length c) vS vX vT w W4.drew := ⟨hF2.bel.drew, hF2.keep⟩
  have x3 : W4.drew.cell? ⟨z, 3, none⟩ = some (.int .i64 (o.c - 1)) := by have := cell_of hz4 3; simpa using this
  clear hz4 hk4 hF
  generalize W4.drew = W5 at hR hF2 x3 ⊢
  go_wp2
  all_goals go_returns
  all_goals exact ⟨rfl, ⟨_, hR⟩, hF2⟩
end
end Go.Proofs.YtooblonafnlfcaaDoor
end
