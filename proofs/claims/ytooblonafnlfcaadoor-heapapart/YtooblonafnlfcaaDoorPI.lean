/- Towards HeapCounts: what the law's own map knows. -/
import Derived.Test.YtooblonafnlfcaaDoorPH
namespace Go.Proofs.YtooblonafnlfcaaDoor
open Go.ChangeShapes Go.WideShapes Go.ChangeAt Go.RowKit
open H
set_option linter.unusedVariables false
set_option linter.unusedSimpArgs false
set_option maxRecDepth 20000
variable {Yo : Nat → Prop}
def cvO (x : Option Oj) (g : Nat) : Int := match x with
  | some o => if o.g = g then o.c + 1 else 0
  | none => 0
/-- The count of an object that lives, and 1; else 0. -/
def cvM (M : MJ) (s : Int) (g : Nat) : Int := cvO (getM M s) g
theorem cv_live {M : MJ} {k : Nat} {o : Oj} (h : M k = some o) : cvM M k o.g = o.c + 1 := by simp [cvM, getM_nat, h, cvO]
theorem cv_dead {M : MJ} {s : Int} {g : Nat} (h : liveB M s g = false) : cvM M s g = 0 := by
  unfold cvM cvO
  cases e : getM M s with
  | none => rfl
  | some o =>
    simp only [liveB, lOf, e] at h
    simp at h
    simp [h]
theorem cv_put {M : MJ} {F : HKey → Option Value} (hF : ∀ s g, (F (s, g)).getD (.int .i64 0) = .int .i64 (cvM M s g)) {k : Nat} {x : Option Oj} {g0 : Nat} (hx : ∀ g, g ≠ g0 → cvO x g = cvO (M k) g) (c : Int) (hc : c = cvO x g0) :
    ∀ s g, ((updH F ((k : Int), g0) (some (.int .i64 c))) (s, g)).getD (.int .i64 0) = .int .i64 (cvM (updM M k x) s g) := by
  intro s g
  subst hc
  unfold updH
  by_cases e : ((s, g) : HKey) = ((k : Int), g0)
  · cases e
    rw [if_pos rfl, cvM, getM_upd, if_pos rfl]
    rfl
  · rw [if_neg e, hF, cvM, cvM, getM_upd]
    by_cases e2 : s = k
    · rw [if_pos e2, e2, getM_nat, hx g (by rintro rfl; exact e (by rw [e2]))]
    · rw [if_neg e2]
structure Hc (w : World) (B : Nat) (q : HQ) (mc : Nat) (room used : Int) (N : Int → Nat) (M : MJ) (ns : Nat) (A K : Nat → Nat) (i : Nat) (X : List HKey) (v : Value) : Prop where
  hp : Hp (fun _ => False) w B q room used N M ns A K i
  mp : ∃ kk F, HM w mc kk F ∧ ∀ s g, (F (s, g)).getD (.int .i64 0) = .int .i64 (cvM M s g)
  row : w.ownsRow B 34 2 v X.length (hCells X)
  n1 : mc ≠ q.m1
  n2 : mc ≠ q.m2
  n3 : mc ≠ q.m3
  mB : B ≤ mc
  len : X.length ≤ i
  tab : Tab w
theorem Hc.kept {w w' : World} {B : Nat} {q : HQ} {mc : Nat} {room used : Int} {N : Int → Nat} {M : MJ} {ns : Nat} {A K : Nat → Nat} {i i' : Nat} {X : List HKey} {v : Value} (h : Hc w B q mc room used N M ns A K i X v) (hb : Below w.heap.size w w') (h0 : 0 < B) (hi : i ≤ i') (hn : i' ≤ 90000) : Hc w' B q mc room used N M ns A K i' X v := by
  obtain ⟨kk, F, h1, h2⟩ := h.mp
  exact ⟨(h.hp.kept hb).more hi hn, ⟨kk, F, h1.keep (hb.block _ h1.lt), h2⟩, row_kept h.row (fun g hg => hb.block _ (by obtain ⟨c, e⟩ := row_cells h.row hg; exact heap_lt e)), h.n1, h.n2, h.n3, h.mB, Nat.le_trans h.len hi, h.tab.gr (B := w.heap.size) (by have := h.hp.size; omega) hb⟩
/-- Beside a call of the heap: the law's own. -/
theorem Hc.side {w w' : World} {B : Nat} {q : HQ} {mc : Nat} {room used : Int} {N : Int → Nat} {M : MJ} {ns : Nat} {A K : Nat → Nat} {i : Nat} {X : List HKey} {v : Value} (h : Hc w B q mc room used N M ns A K i X v) (hF : Fq (fun _ => False) B q w w') (h0 : 0 < B) :
    (∃ kk F, HM w' mc kk F ∧ ∀ s g, (F (s, g)).getD (.int .i64 0) = .int .i64 (cvM M s g)) ∧ w'.ownsRow B 34 2 v X.length (hCells X) ∧ Tab w' := by
  obtain ⟨kk, F, h1, h2⟩ := h.mp
  obtain ⟨cs, hcs⟩ := h.hp.sl.cellsS
  refine ⟨⟨kk, F, ?_, h2⟩, row_kept h.row (fun g hg => ?_), h.tab.gr h0 hF.bel⟩
  · obtain ⟨es, c, e1, e2⟩ := h1
    exact ⟨es, c, hF.keep mc _ (by rintro rfl; rw [e1] at hcs; cases hcs) h.n1 h.n2 h.n3 e1 (by intro cs z e; cases e) (by intro cs z e; cases e) (by intro cs z e; cases e), e2⟩
  · obtain ⟨c, e⟩ := row_cells h.row hg
    rw [hF.at34 h.hp e, e]
theorem Hp.turned {w w' : World} {B : Nat} {q : HQ} {room used : Int} {N : Int → Nat} {M : MJ} {ns : Nat} {A K : Nat → Nat} {n m : Nat} (h : Hp Yo w B q room used N M ns A K n) (ht : w.mapTurned w' m) (h1 : m ≠ q.m1) (h2 : m ≠ q.m2) (h3 : m ≠ q.m3) : Hp Yo w' B q room used N M ns A K n := by
  obtain ⟨es, c, hes⟩ : ∃ es c, w.heap[m]? = some (.map es c) := by obtain ⟨es, c, _, _, e, _⟩ := ht; exact ⟨es, c, e⟩
  have hkc : ∀ (j : Nat) (cs : Array Value) (t : TypeId) (z : Nat × Nat), w.heap[j]? = some (.cells cs t z) → w'.heap[j]? = some (.cells cs t z) := fun j cs t z e =>
    (ht.grown.block j (heap_lt e) (by simp; rintro rfl; rw [hes] at e; cases e)).trans e
  have hkm : ∀ (j : Nat) (o : Obj), j ≠ m → w.heap[j]? = some o → w'.heap[j]? = some o := fun j o hj e => (ht.grown.block j (heap_lt e) (by simpa using hj)).trans e
  refine ⟨h.ow.keep fun k o ho _ _ _ hm => ?_, h.sl.byT ht.grown.size fun k cs t z _ e => hkc _ _ _ _ e, tb_byK h.tb fun k o ho hm => ?_, h.us, h.ne1, h.ne2, h.nn, h.n5, h.yo⟩
  · rcases hm with e | ⟨cs, t, z, rfl⟩
    · exact hkm _ _ (by omega) ho
    · exact hkc _ _ _ _ ho
  · rcases hm with ⟨e, _⟩ | ⟨cs, z, rfl⟩
    · exact hkm _ _ (by omega) ho
    · exact hkc _ _ _ _ ho
/-- A count is put into the law's own map. -/
theorem Hc.put {w1 w2 : World} {B : Nat} {q : HQ} {mc : Nat} {room used : Int} {N : Int → Nat} {M' : MJ} {ns : Nat} {A K : Nat → Nat} {i kk : Nat} {X : List HKey} {v : Value} {F : HKey → Option Value} (hp : Hp (fun _ => False) w1 B q room used N M' ns A K i)
    (hm : HM w2 mc kk F) (hF : ∀ s g, (F (s, g)).getD (.int .i64 0) = .int .i64 (cvM M' s g)) (ht : w1.mapTurned w2 mc) (hr : w1.ownsRow B 34 2 v X.length (hCells X)) (n1 : mc ≠ q.m1) (n2 : mc ≠ q.m2) (n3 : mc ≠ q.m3) (mB : B ≤ mc) (hl : X.length ≤ i) (hT : Tab w1) (h0 : 0 < B) :
    Hc w2 B q mc room used N M' ns A K i X v ∧ Below B w1 w2 := by
  have hb : Below B w1 w2 := (Below.refl _ _).grown ht.grown hp.size (fun k e => by cases e; exact mB)
  obtain ⟨es, c, hes⟩ : ∃ es c, w1.heap[mc]? = some (.map es c) := by obtain ⟨es, c, _, _, e, _⟩ := ht; exact ⟨es, c, e⟩
  exact ⟨⟨hp.turned ht n1 n2 n3, ⟨kk, F, hm, hF⟩, row_kept hr (fun g hg => by
    obtain ⟨cur, e⟩ := row_cells hr hg
    exact ht.grown.block _ (heap_lt e) (by simp; rintro rfl; rw [hes] at e; cases e)), n1, n2, n3, mB, hl, hT.gr h0 hb⟩, hb⟩
/-- A handle is put behind all. -/
theorem Hc.app {w2 w3 : World} {B : Nat} {q : HQ} {mc : Nat} {room used : Int} {N : Int → Nat} {M : MJ} {ns : Nat} {A K : Nat → Nat} {i : Nat} {X : List HKey} {v v' : Value} {s : Int} {g : Nat} (h : Hc w2 B q mc room used N M ns A K i X v)
    (hr : w3.ownsRow B 34 2 v' (X.length + 1) (hCells X ++ [.int .i64 s, .int .u64 g])) (hk3 : ∀ j, j < w2.heap.size → some j ≠ v.ownBlock → w3.heap[j]? = w2.heap[j]?) (hs : w2.heap.size ≤ w3.heap.size) (hl : X.length + 1 ≤ i) (hb : Below B w2 w3) (h0 : 0 < B) :
    Hc w3 B q mc room used N M ns A K i (X ++ [(s, g)]) v' := by
  obtain ⟨kk, F, h1, h2⟩ := h.mp
  refine ⟨h.hp.byH hs fun k o ho hn => ?_, ⟨kk, F, h1.keep (hk3 _ h1.lt ?_), h2⟩, ?_, h.n1, h.n2, h.n3, h.mB, by simpa using hl, h.tab.gr h0 hb⟩
  · refine (hk3 _ (heap_lt ho) fun e => ?_).trans ho
    obtain ⟨cur, e2⟩ := row_cells h.row e.symm
    rw [e2] at ho
    cases ho
    exact hn _ _ rfl
  · intro e
    obtain ⟨cur, e2⟩ := row_cells h.row e.symm
    exact hm_notc h1 e2
  · rw [hCells_app, List.length_append]
    simpa [hCells] using hr
end Go.Proofs.YtooblonafnlfcaaDoor
