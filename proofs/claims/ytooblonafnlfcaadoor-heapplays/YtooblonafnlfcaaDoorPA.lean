/- Towards the statements of package heap (layer 14): a heap in memory. -/
import Derived.Test.YtooblonafnlfcaaDoorSQ
import Derived.Test.YtooblonafnlfcaaDoorHD
import Derived.BigQuiet
namespace Go.Proofs.YtooblonafnlfcaaDoor
open Go.ChangeShapes Go.WideShapes Go.ChangeAt Go.RowKit
set_option linter.unusedVariables false
set_option linter.unusedSimpArgs false
set_option maxRecDepth 20000
variable {Yo : Nat → Prop}
/-- Where a heap's parts lie: itself, its slab, its table with two maps, its own map. -/
structure HQ where
  b : Nat
  s : Nat
  t : Nat
  m1 : Nat
  m2 : Nat
  m3 : Nat
/-- An object: its number, its count, its kind, its bytes. -/
structure Oj where
  g : Nat
  c : Int
  k : Int
  bs : List Int
abbrev MJ := Nat → Option Oj
def getM (M : MJ) (s : Int) : Option Oj := if s < 0 then none else M s.toNat
def updM (M : MJ) (k : Nat) (x : Option Oj) : MJ := fun s => if s = k then x else M s
theorem updM_self (M : MJ) (k : Nat) (x : Option Oj) : updM M k x k = x := by simp [updM]
theorem updM_ne (M : MJ) {k s : Nat} (x : Option Oj) (h : s ≠ k) : updM M k x s = M s := by simp [updM, h]
def tOf (M : MJ) (K : Nat → Nat) : Nat → Th := fun k => (M k).map fun o => (K k, o.bs)
def lOf (M : MJ) : Int → Option Nat := fun k => (getM M k).map (·.g)
def pOf (M : MJ) (A : Nat → Nat) : Int → Option Value := fun k => (getM M k).map fun _ => .pointer (some ⟨A k.toNat, 0, none⟩)
def ojV (o : Oj) : Array Value := #[.int .i64 o.c, .int .i64 o.k]
/-- A heap's own: its cells, its map, its objects. -/
structure Ho (Yo : Nat → Prop) (w : World) (B : Nat) (q : HQ) (M : MJ) (A : Nat → Nat) (n : Nat) : Prop where
  bB : B ≤ q.b
  cells : w.heap[q.b]? = some (.cells #[.pointer (some ⟨q.s, 0, none⟩), .pointer (some ⟨q.t, 0, none⟩), .map (some q.m3)] 77 (0, 0))
  b3 : B ≤ q.m3
  im : IM w q.m3 n (pOf M A)
  ob : ∀ k o, M k = some o → B ≤ A k ∧ w.heap[A k]? = some (.cells (ojV o) 87 (0, 0)) ∧ 0 ≤ o.c ∧ o.c ≤ n ∧ ¬ Yo (A k)
  ap : ∀ k j x y, M k = some x → M j = some y → A k = A j → k = j
structure Hp (Yo : Nat → Prop) (w : World) (B : Nat) (q : HQ) (room used : Int) (N : Int → Nat) (M : MJ) (ns : Nat) (A K : Nat → Nat) (n : Nat) : Prop where
  ow : Ho Yo w B q M A n
  sl : SlF Yo w B q.s room used (tOf M K) ns
  tb : H.Tb w B q.t q.m1 q.m2 N (lOf M) n
  us : Us (tOf M K) used
  ne1 : q.m3 ≠ q.m1
  ne2 : q.m3 ≠ q.m2
  nn : ns ≤ n
  n5 : n ≤ 90000
  yo : ¬ Yo q.b ∧ ¬ Yo q.t ∧ ¬ Yo q.m1 ∧ ¬ Yo q.m2 ∧ ¬ Yo q.m3
/-- What a call of a heap leaves: all below B, all beside its own. -/
structure Fq (Yo : Nat → Prop) (B : Nat) (q : HQ) (w w' : World) : Prop where
  bel : Below B w w'
  keep : ∀ k o, k ≠ q.s → k ≠ q.m1 → k ≠ q.m2 → k ≠ q.m3 → w.heap[k]? = some o → (∀ cs z, o ≠ .cells cs 124 z) → (∀ cs z, o ≠ .cells cs 5 z) → (∀ cs z, o ≠ .cells cs 87 z) → w'.heap[k]? = some o
  far : ∀ k, Yo k → k < w.heap.size → w'.heap[k]? = w.heap[k]?
theorem Fq.refl (B : Nat) (q : HQ) (w : World) : Fq Yo B q w w := ⟨Below.refl _ _, fun _ _ _ _ _ _ h _ _ _ => h, fun _ _ _ => rfl⟩
theorem Fq.trans {B : Nat} {q : HQ} {w0 w1 w2 : World} (h : Fq Yo B q w0 w1) (k : Fq Yo B q w1 w2) : Fq Yo B q w0 w2 :=
  ⟨h.bel.trans k.bel, fun i o h1 h2 h3 h4 ho a b c => k.keep i o h1 h2 h3 h4 (h.keep i o h1 h2 h3 h4 ho a b c) a b c, fun i hi hl => (k.far i hi (Nat.lt_of_lt_of_le hl h.bel.size)).trans (h.far i hi hl)⟩
theorem Fq.of {B : Nat} {q : HQ} {w w' : World} (h : Below w.heap.size w w') (hB : B ≤ w.heap.size) : Fq Yo B q w w' :=
  ⟨h.mono hB, fun k o _ _ _ _ ho _ _ _ => (h.block k (heap_lt ho)).trans ho, fun k _ hl => h.block k hl⟩
theorem Fq.ofS {B : Nat} {q : HQ} {w w' : World} (h : FrF Yo B q.s w w') : Fq Yo B q w w' :=
  ⟨h.bel, fun k o h1 _ _ _ ho a b _ => h.keep k o h1 ho a b, h.far⟩
theorem Fq.ofT {B : Nat} {q : HQ} {w w' : World} (h : H.Fh B q.m1 q.m2 w w') (y1 : ¬ Yo q.m1) (y2 : ¬ Yo q.m2) : Fq Yo B q w w' :=
  ⟨h.bel, fun k o _ h1 h2 _ ho _ _ _ => (h.keep k (heap_lt ho) h1 h2).trans ho, fun k hk hl => h.keep k hl (by rintro rfl; exact y1 hk) (by rintro rfl; exact y2 hk)⟩
theorem Fq.ofM {B : Nat} {q : HQ} {w w' : World} (h : w.mapTurned w' q.m3) (hB : B ≤ q.m3) (hs : B ≤ w.heap.size) (y3 : ¬ Yo q.m3) : Fq Yo B q w w' :=
  ⟨(Below.refl B w).grown h.grown hs (fun k e => by cases e; exact hB), fun k o _ _ _ h3 ho _ _ _ => (h.grown.block k (heap_lt ho) (by simp; omega)).trans ho, fun k hk hl => h.grown.block k hl (by simp; rintro rfl; exact y3 hk)⟩
theorem Fq.ofO {B : Nat} {q : HQ} {w : World} {a : Nat} {cs : Array Value} {z : Nat × Nat} (h : w.heap[a]? = some (.cells cs 87 z)) (hB : B ≤ a) (hy : ¬ Yo a) (j : Nat) (u : Value) : Fq Yo B q w (w.setCell ⟨a, j, none⟩ u) :=
  ⟨(Below.refl B w).setCell hB u, fun k o _ _ _ _ ho _ _ h87 => heap_set ho (by rintro rfl; rw [h] at ho; cases ho; exact h87 _ _ rfl), fun k hk hl => Below.heap_setCell _ _ _ _ (by rintro rfl; exact hy hk)⟩
theorem Fq.drew {B : Nat} {q : HQ} {w w' : World} (h : Fq Yo B q w w') : Fq Yo B q w w'.drew := ⟨h.bel.drew, h.keep, h.far⟩
theorem Hp.size {w : World} {B : Nat} {q : HQ} {room used : Int} {N : Int → Nat} {M : MJ} {ns : Nat} {A K : Nat → Nat} {n : Nat} (h : Hp Yo w B q room used N M ns A K n) : B ≤ w.heap.size := Nat.le_trans h.ow.bB (Nat.le_of_lt (heap_lt h.ow.cells))
theorem Ho.keep {w w' : World} {B : Nat} {q : HQ} {M : MJ} {A : Nat → Nat} {n : Nat} (h : Ho Yo w B q M A n)
    (hk : ∀ k o, w.heap[k]? = some o → (∀ cs z, o ≠ .cells cs 124 z) → (∀ cs z, o ≠ .cells cs 5 z) → (∀ cs z, o ≠ .cells cs 100 z) → (k = q.m3 ∨ ∃ cs t z, o = .cells cs t z) → w'.heap[k]? = some o) : Ho Yo w' B q M A n := by
  refine ⟨h.bB, hk _ _ h.cells (by intro cs z e; cases e) (by intro cs z e; cases e) (by intro cs z e; cases e) (.inr ⟨_, _, _, rfl⟩), h.b3, ?_, fun k o e => ?_, h.ap⟩
  · obtain ⟨es, c, h1, h2⟩ := h.im
    exact ⟨es, c, hk _ _ h1 (by intro cs z e; cases e) (by intro cs z e; cases e) (by intro cs z e; cases e) (.inl rfl), h2⟩
  · obtain ⟨a, b, c⟩ := h.ob k o e
    exact ⟨a, hk _ _ b (by intro cs z e; cases e) (by intro cs z e; cases e) (by intro cs z e; cases e) (.inr ⟨_, _, _, rfl⟩), c⟩
theorem Ho.below {w w' : World} {B : Nat} {q : HQ} {M : MJ} {A : Nat → Nat} {n : Nat} (h : Ho Yo w B q M A n) (hb : Below w.heap.size w w') : Ho Yo w' B q M A n :=
  h.keep fun k o ho _ _ _ _ => (hb.block k (heap_lt ho)).trans ho
theorem Ho.fr {w w' : World} {B : Nat} {q : HQ} {M : MJ} {A : Nat → Nat} {n : Nat} (h : Ho Yo w B q M A n) {C : Nat} (hF : FrF Yo C q.s w w') {cs : Array Value} {z : Nat × Nat} (hs : w.heap[q.s]? = some (.cells cs 100 z)) : Ho Yo w' B q M A n :=
  h.keep fun k o ho h1 h2 h3 _ => hF.keep k o (by rintro rfl; rw [hs] at ho; cases ho; exact h3 _ _ rfl) ho h1 h2
theorem IM.notc {w : World} {m n : Nat} {F : Int → Option Value} (h : IM w m n F) {cs : Array Value} {t : TypeId} {z : Nat × Nat} (e : w.heap[m]? = some (.cells cs t z)) : False := by
  obtain ⟨es, c, h1, _⟩ := h
  rw [h1] at e
  cases e
theorem Ho.fh {w w' : World} {B : Nat} {q : HQ} {M : MJ} {A : Nat → Nat} {n : Nat} (h : Ho Yo w B q M A n) {C b' n' : Nat} {N : Int → Nat} {L : Int → Option Nat} (hT : H.Tb w C b' q.m1 q.m2 N L n') (hF : H.Fh C q.m1 q.m2 w w') (h1 : q.m3 ≠ q.m1) (h2 : q.m3 ≠ q.m2) : Ho Yo w' B q M A n := by
  obtain ⟨F, hF1, _⟩ := hT.im1
  exact h.keep fun k o ho _ _ _ hm => (hF.keep k (heap_lt ho) (by rcases hm with e | ⟨cs, t, z, rfl⟩; · omega
                                                                  · rintro rfl; exact hF1.notc ho) (by rcases hm with e | ⟨cs, t, z, rfl⟩; · omega
                                                                                                       · rintro rfl; exact hT.im2.notc ho)).trans ho
theorem SlF.byT {w w' : World} {B b : Nat} {room used : Int} {T : Nat → Th} {n : Nat} (h : SlF Yo w B b room used T n) (hs : w.heap.size ≤ w'.heap.size)
    (hk : ∀ (k : Nat) (cs : Array Value) (t : TypeId) (z : Nat × Nat), (t = 100 ∨ t = 124 ∨ t = 5) → w.heap[k]? = some (.cells cs t z) → w'.heap[k]? = some (.cells cs t z)) : SlF Yo w' B b room used T n := by
  obtain ⟨v, xs, q, hv, hx⟩ := h.rows
  refine ⟨h.bB, h.nb, h.rm, h.us, ⟨v, xs, hk _ _ _ _ (.inl rfl) q, ⟨hv.1, ?_⟩, hx⟩, h.out, fun s hh bs e => ?_, h.apart, h.off.go hs (hk _ _ _ _ (.inl rfl) q) (h.offr q) h.off.2.2.1⟩
  · rcases hv.2 with e | ⟨g, cap, cur, e, a1, a2, a3⟩
    · exact .inl e
    · exact .inr ⟨g, cap, cur, e, a1, hk _ _ _ _ (.inr (.inl rfl)) a2, a3⟩
  · obtain ⟨a1, a2, a3⟩ := h.th s hh bs e
    exact ⟨a1, hk _ _ _ _ (.inr (.inr rfl)) a2, a3⟩
theorem SlF.fh {w w' : World} {B b : Nat} {room used : Int} {T : Nat → Th} {n : Nat} (h : SlF Yo w B b room used T n) {C b' m1 m2 n' : Nat} {N : Int → Nat} {L : Int → Option Nat} (hT : H.Tb w C b' m1 m2 N L n') (hF : H.Fh C m1 m2 w w') : SlF Yo w' B b room used T n := by
  obtain ⟨F, hF1, _⟩ := hT.im1
  exact h.byT hF.bel.size fun k cs t z _ ho => (hF.keep k (heap_lt ho) (by rintro rfl; exact hF1.notc ho) (by rintro rfl; exact hT.im2.notc ho)).trans ho
theorem SlF.cellsS {w : World} {B b : Nat} {room used : Int} {T : Nat → Th} {n : Nat} (h : SlF Yo w B b room used T n) : ∃ cs, w.heap[b]? = some (.cells cs 100 (0, 0)) := by
  obtain ⟨v, xs, q, hv, hx⟩ := h.rows
  exact ⟨_, q⟩
theorem tb_byK {w w' : World} {B b m1 m2 n : Nat} {N : Int → Nat} {L : Int → Option Nat} (h : H.Tb w B b m1 m2 N L n) (hk : ∀ k o, w.heap[k]? = some o → ((k = m1 ∨ k = m2) ∧ (∀ cs t z, o ≠ .cells cs t z) ∨ ∃ cs z, o = .cells cs 104 z) → w'.heap[k]? = some o) : H.Tb w' B b m1 m2 N L n := by
  obtain ⟨F, ⟨es, c, h1, h2⟩, hF2⟩ := h.im1
  obtain ⟨es', c', h1', h2'⟩ := h.im2
  exact ⟨hk _ _ h.cells (.inr ⟨_, _, rfl⟩), h.bB, h.b1, h.b2, h.ne, h.nb, ⟨F, ⟨es, c, hk _ _ h1 (.inl ⟨.inl rfl, by intro cs t z e; cases e⟩), h2⟩, hF2⟩, ⟨es', c', hk _ _ h1' (.inl ⟨.inr rfl, by intro cs t z e; cases e⟩), h2'⟩, h.bd, h.gen⟩
theorem tb_fr {w w' : World} {B b m1 m2 n : Nat} {N : Int → Nat} {L : Int → Option Nat} (h : H.Tb w B b m1 m2 N L n) {C s : Nat} (hF : FrF Yo C s w w') {cs : Array Value} {z : Nat × Nat} (hs : w.heap[s]? = some (.cells cs 100 z)) : H.Tb w' B b m1 m2 N L n := by
  refine tb_byK h fun k o ho hm => hF.keep k o ?_ ho ?_ ?_
  · rintro rfl
    rw [hs] at ho
    cases ho
    rcases hm with ⟨_, hm⟩ | ⟨cs, z, e⟩
    · exact hm _ _ _ rfl
    · cases e
  · rintro cs z rfl
    rcases hm with ⟨_, hm⟩ | ⟨cs, z, e⟩
    · exact hm _ _ _ rfl
    · cases e
  · rintro cs z rfl
    rcases hm with ⟨_, hm⟩ | ⟨cs, z, e⟩
    · exact hm _ _ _ rfl
    · cases e
/-- All of a heap is kept by what makes new blocks alone. -/
theorem Hp.kept {w w' : World} {B : Nat} {q : HQ} {room used : Int} {N : Int → Nat} {M : MJ} {ns : Nat} {A K : Nat → Nat} {n : Nat} (h : Hp Yo w B q room used N M ns A K n) (hb : Below w.heap.size w w') : Hp Yo w' B q room used N M ns A K n :=
  ⟨h.ow.below hb, h.sl.kept hb, h.tb.below hb, h.us, h.ne1, h.ne2, h.nn, h.n5, h.yo⟩
theorem Ho.more {w : World} {B : Nat} {q : HQ} {M : MJ} {A : Nat → Nat} {n n' : Nat} (h : Ho Yo w B q M A n) (e : n ≤ n') : Ho Yo w B q M A n' :=
  ⟨h.bB, h.cells, h.b3, h.im.mono e, fun k o e' => by
    obtain ⟨a, b, c, d, y⟩ := h.ob k o e'
    exact ⟨a, b, c, by omega, y⟩, h.ap⟩
theorem Hp.more {w : World} {B : Nat} {q : HQ} {room used : Int} {N : Int → Nat} {M : MJ} {ns : Nat} {A K : Nat → Nat} {n n' : Nat} (h : Hp Yo w B q room used N M ns A K n) (e : n ≤ n') (hn : n' ≤ 90000) : Hp Yo w B q room used N M ns A K n' :=
  ⟨h.ow.more e, h.sl, h.tb.mono e (by omega), h.us, h.ne1, h.ne2, Nat.le_trans h.nn e, hn, h.yo⟩
/-- A region in which calls make new memory alone. -/
structure BlBy (w : World) where
  wo : World
  bl : Below w.heap.size w wo
theorem wp_region_bl {P : Program} {id : Nat} {Q : Exit → Act → World → Prop} {a : Act} {w : World} {l : List Oper} (hm : P.follows .mixedOrders = true) (hB : Region.lexB .any l.toArray = true)
    (h : wpQuiet P l.toArray (fun w' => ∃ p : BlBy w, w' = p.wo) (fun a' => ∀ w', (∃ p : BlBy w, w' = p.wo) → Q .normal a' w') l a) : (Code.region id l.toArray true).wp P Q a w :=
  wp_region_quiet (C := fun w' => ∃ p : BlBy w, w' = p.wo) hm hB ⟨⟨w.drew, (Below.refl _ w).drew⟩, rfl⟩ (by simpa using h)
theorem calls_bl {P : Program} {f : FuncId} {args : Array Value} {w : World} {p : BlBy w} {v : Value} (h : Calls P f args p.wo fun e w' => e = .returned v ∧ Below p.wo.heap.size p.wo w') :
    Calls P f args p.wo fun e w' => e = .returned v ∧ ∃ q : BlBy w, w' = q.wo :=
  h.mono fun _ w' ⟨he, hg⟩ => ⟨he, ⟨w', p.bl.trans (hg.mono p.bl.size)⟩, rfl⟩
theorem calls_bl0 {P : Program} {f : FuncId} {args : Array Value} {w : World} {p : BlBy w} {v : Value} (h : Calls P f args p.wo fun e w' => e = .returned v ∧ w' = p.wo) :
    Calls P f args p.wo fun e w' => e = .returned v ∧ ∃ q : BlBy w, w' = q.wo :=
  h.mono fun _ w' ⟨he, hg⟩ => ⟨he, p, hg⟩
theorem getM_nat (M : MJ) (i : Nat) : getM M i = M i := by
  unfold getM
  rw [if_neg (by omega)]
  simp
theorem getT_tOf (M : MJ) (K : Nat → Nat) (s : Int) : getT (tOf M K) s = (getM M s).map fun o => (K s.toNat, o.bs) := by
  unfold getT getM tOf
  by_cases e : s < 0
  · rw [if_pos e, if_pos e]; rfl
  · rw [if_neg e, if_neg e]
theorem nem_nil (m : Nat) (W : World) : (binOp .neq 75 (.map (some m)) (.map none)).run Tryd.prog W = .ok (.bool true) W := by kernel_rfl
theorem hmade_nil (w : World) : Calls Tryd.prog 31 #[.pointer none] w fun e w' => e = .returned (.bool false) ∧ w' = w := by
  go_enter Tryd.func31, Tryd.ntmps31
  go_wp2
  all_goals go_returns
  all_goals exact ⟨rfl, rfl⟩
theorem hmade_yes (w : World) (b m : Nat) (h0 : w.cell? ⟨b, 2, none⟩ = some (.map (some m))) : Calls Tryd.prog 31 #[.pointer (some ⟨b, 0, none⟩)] w fun e w' => e = .returned (.bool true) ∧ w' = w := by
  have k1 := nem_nil m w
  go_enter Tryd.func31, Tryd.ntmps31
  go_wp2
  all_goals go_returns
  all_goals exact ⟨rfl, rfl⟩
end Go.Proofs.YtooblonafnlfcaaDoor
