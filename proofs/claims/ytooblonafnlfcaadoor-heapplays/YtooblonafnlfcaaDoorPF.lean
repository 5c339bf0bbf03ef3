/- Towards the statements of package heap (layer 14): Make. -/
import Derived.Test.YtooblonafnlfcaaDoorPE
namespace Go.Proofs.YtooblonafnlfcaaDoor
open Go.ChangeShapes Go.WideShapes Go.ChangeAt Go.RowKit
set_option linter.unusedVariables false
set_option linter.unusedSimpArgs false
set_option maxRecDepth 20000
variable {Yo : Nat → Prop}
theorem Fq.set {B : Nat} {q : HQ} {w w' : World} (h : Fq Yo B q w w') {p : Addr} (hp : w.heap.size ≤ p.block) (hB : B ≤ w.heap.size) (u : Value) : Fq Yo B q w (w'.setCell p u) :=
  ⟨h.bel.setCell (Nat.le_trans hB hp) u, fun k o h1 h2 h3 h4 ho a b c => by
    rw [Below.heap_setCell _ _ _ _ (by have := heap_lt ho; omega)]
    exact h.keep k o h1 h2 h3 h4 ho a b c, fun k hk hl => (Below.heap_setCell _ _ _ _ (by omega)).trans (h.far k hk hl)⟩
theorem Fq.alloc {B : Nat} {q : HQ} {w w' : World} (h : Fq Yo B q w w') (hB : B ≤ w.heap.size) (o : Obj) : Fq Yo B q w (w'.alloc o) :=
  h.trans (Fq.of ((Below.refl _ w').alloc (Nat.le_refl _) _) (Nat.le_trans hB h.bel.size))
theorem put_hd {W : World} {z : Nat} {t : TypeId} {a b : Value} (h : W.heap[z]? = some (.cells #[a, b] t (0, 0))) (c d : Value) :
    ((W.setCell ⟨z, 0, none⟩ c).setCell ⟨z, 1, none⟩ d).cell? ⟨z, 0, none⟩ = some c ∧ ((W.setCell ⟨z, 0, none⟩ c).setCell ⟨z, 1, none⟩ d).cell? ⟨z, 1, none⟩ = some d := ⟨(H.put2 h c d).2.2.1, (H.put2 h c d).2.2.2⟩
/-- All of a heap is kept where no block but handles' changes. -/
theorem Hp.byH {w w' : World} {B : Nat} {q : HQ} {room used : Int} {N : Int → Nat} {M : MJ} {ns : Nat} {A K : Nat → Nat} {n : Nat} (h2 : Hp Yo w B q room used N M ns A K n) (hs : w.heap.size ≤ w'.heap.size)
    (hk : ∀ (k : Nat) (o : Obj), w.heap[k]? = some o → (∀ cs z, o ≠ .cells cs 34 z) → w'.heap[k]? = some o) : Hp Yo w' B q room used N M ns A K n := by
  obtain ⟨a1, a2, a3, a4, a5, a6⟩ := h2.ow
  refine ⟨⟨a1, hk _ _ a2 (by intro cs z e; cases e), a3, ?_, fun j o e => ?_, a6⟩, h2.sl.byT hs fun k cs t z ht ho => hk _ _ ho ?_, tb_byK h2.tb fun k o ho hm => hk _ _ ho ?_, h2.us, h2.ne1, h2.ne2, h2.nn, h2.n5, h2.yo⟩
  · obtain ⟨es, c, b1, b2⟩ := a4
    exact ⟨es, c, hk _ _ b1 (by intro cs z e; cases e), b2⟩
  · obtain ⟨b1, b2, b3⟩ := a5 j o e
    exact ⟨b1, hk _ _ b2 (by intro cs z e; cases e), b3⟩
  · rintro cs z e
    cases e
    rcases ht with e | e | e <;> cases e
  · rintro cs z rfl
    rcases hm with ⟨_, hm⟩ | ⟨cs, z, e⟩
    · exact hm _ _ _ rfl
    · cases e
set_option maxHeartbeats 1000000 in
theorem make_bad (w : World) (B : Nat) (q : HQ) (room used : Int) (N : Int → Nat) (M : MJ) (ns : Nat) (A K : Nat → Nat) (n : Nat) (h : Hp Yo w B q room used N M ns A K n) (hT : Tab w) (h0 : 0 < B) (a s : Int) (hs : clsM s = 0) :
    Calls Tryd.prog 13 #[.pointer (some ⟨q.b, 0, none⟩), .int .i64 a, .int .i64 s] w fun e w' => e = .returned (.tuple #[H.hdV 0 0, .int .i64 2]) ∧ Below w.heap.size w w' := by
  have hbe := (Below.refl w.heap.size w).alloc (Nat.le_refl _) (.cells #[.int .i64 0, .int .u64 0] 34)
  have hz := heap_alloc_new w (.cells #[.int .i64 0, .int .u64 0] 34)
  have h1 := h.kept hbe
  have hT1 := hT.gr (B := w.heap.size) (by have := h.size; omega) hbe
  have hc := h1.ow.cells
  generalize hW : w.alloc (.cells #[.int .i64 0, .int .u64 0] 34) = W at h1 hT1 hbe hz hc
  have c0 : W.cell? ⟨q.b, 0, none⟩ = some (.pointer (some ⟨q.s, 0, none⟩)) := by rw [cell_of hc]; rfl
  have c2 : W.cell? ⟨q.b, 2, none⟩ = some (.map (some q.m3)) := by rw [cell_of hc]; rfl
  have k1 := hmade_yes W q.b q.m3 c2
  have k2 := take_bad W _ _ _ _ _ _ h1.sl hT1 s hs
  obtain ⟨e0, e1⟩ := put_hd hz (.int .i64 0) (.int .u64 0)
  have f0 := froz_of hz 0
  have f1 := froz_of hz 1
  have g0 := cell_of hz 0
  have g1 := cell_of hz 1
  simp at g0 g1
  go_enter Tryd.func13, Tryd.ntmps13
  go_wp2_with (first | (go_at_call 31; refine k1.mono ?_; rintro e w' ⟨rfl, hw⟩; rw [hw]; clear hw) | (go_at_call 32; refine k2.mono ?_; rintro e w' ⟨rfl, hw⟩; rw [hw]; clear hw))
  refine bodyPost_ret (by simp [results, Tryd.results13, go_sem, e0, e1]; try rfl) rfl ?_
  exact ⟨rfl, (hbe.setCell (Nat.le_refl _) _).setCell (Nat.le_refl _) _⟩
set_option maxHeartbeats 1000000 in
theorem make_full (w : World) (B : Nat) (q : HQ) (room used : Int) (N : Int → Nat) (M : MJ) (ns : Nat) (A K : Nat → Nat) (n : Nat) (h : Hp Yo w B q room used N M ns A K n) (hT : Tab w) (h0 : 0 < B) (a s : Int) (hs : 0 < clsM s) (hf : room < used + clsM s) :
    Calls Tryd.prog 13 #[.pointer (some ⟨q.b, 0, none⟩), .int .i64 a, .int .i64 s] w fun e w' => e = .returned (.tuple #[H.hdV 0 0, .int .i64 6]) ∧ Hp Yo w' B q room used N M ns A K n ∧ Fq Yo B q w w' := by
  have hB := h.size
  have hbe := (Below.refl w.heap.size w).alloc (Nat.le_refl _) (.cells #[.int .i64 0, .int .u64 0] 34)
  have hz := heap_alloc_new w (.cells #[.int .i64 0, .int .u64 0] 34)
  have h1 := h.kept hbe
  have hT1 := hT.gr (B := w.heap.size) (by omega) hbe
  have hc := h1.ow.cells
  generalize hW : w.alloc (.cells #[.int .i64 0, .int .u64 0] 34) = W at h1 hT1 hbe hz hc
  have c0 : W.cell? ⟨q.b, 0, none⟩ = some (.pointer (some ⟨q.s, 0, none⟩)) := by rw [cell_of hc]; rfl
  have c2 : W.cell? ⟨q.b, 2, none⟩ = some (.map (some q.m3)) := by rw [cell_of hc]; rfl
  have k1 := hmade_yes W q.b q.m3 c2
  have k2 := take_full W _ _ _ _ _ _ h1.sl hT1 s hs hf
  obtain ⟨cs, hcs⟩ := h1.sl.cellsS
  go_enter Tryd.func13, Tryd.ntmps13
  go_upto_region 4 with (first | (go_at_call 31; refine k1.mono ?_; rintro e w' ⟨rfl, hw⟩; rw [hw]; clear hw) | (go_at_call 32; refine k2.mono ?_; rintro e w2 ⟨rfl, hS2, hF2⟩))
  have hz2 : w2.heap[w.heap.size]? = some (.cells #[.int .i64 0, .int .u64 0] 34 (0, 0)) := hF2.keep _ _ (by rintro e; rw [← e, hz] at hcs; cases hcs) hz (by intro cs z e; cases e) (by intro cs z e; cases e)
  have h2 : Hp Yo w2 B q room used N M ns A K n := ⟨h1.ow.fr hF2 hcs, hS2, tb_fr h1.tb hF2 hcs, h1.us, h1.ne1, h1.ne2, h1.nn, h1.n5, h1.yo⟩
  have hbs : Below w2.heap.size w2 w2 := Below.refl _ _
  obtain ⟨e0, e1⟩ := put_hd hz2 (.int .i64 0) (.int .u64 0)
  have f0 := froz_of hz2 0
  have f1 := froz_of hz2 1
  have g0 := cell_of hz2 0
  have g1 := cell_of hz2 1
  simp at g0 g1
  have hFq : Fq Yo B q w ((w2.setCell ⟨w.heap.size, 0, none⟩ (.int .i64 0)).setCell ⟨w.heap.size, 1, none⟩ (.int .u64 0)) := (((Fq.of hbe hB).trans (Fq.ofS hF2)).set (Nat.le_refl _) hB _).set (Nat.le_refl _) hB _
  have hHp : Hp Yo ((w2.setCell ⟨w.heap.size, 0, none⟩ (.int .i64 0)).setCell ⟨w.heap.size, 1, none⟩ (.int .u64 0)) B q room used N M ns A K n := by
    refine h2.byH (by simp) fun k o ho hn => ?_
    have hne : k ≠ w.heap.size := by rintro rfl; rw [hz2] at ho; cases ho; exact hn _ _ rfl
    exact heap_set (heap_set ho hne) hne
  have hout : Hid (Hp Yo ((w2.setCell ⟨w.heap.size, 0, none⟩ (.int .i64 0)).setCell ⟨w.heap.size, 1, none⟩ (.int .u64 0)) B q room used N M ns A K n ∧ Fq Yo B q w ((w2.setCell ⟨w.heap.size, 0, none⟩ (.int .i64 0)).setCell ⟨w.heap.size, 1, none⟩ (.int .u64 0))) := ⟨hHp, hFq⟩
  clear hHp hFq k1 k2
  go_wp2
  refine bodyPost_ret (by simp [results, Tryd.results13, go_sem, e0, e1]; try rfl) rfl ?_
  exact ⟨rfl, hout.out⟩
def updF2 (A : Nat → Nat) (k b : Nat) : Nat → Nat := fun j => if j = k then b else A j
theorem updF2_self (A : Nat → Nat) (k b : Nat) : updF2 A k b k = b := by simp [updF2]
theorem updF2_ne (A : Nat → Nat) {k j : Nat} (b : Nat) (h : j ≠ k) : updF2 A k b j = A j := by simp [updF2, h]
theorem tOf_new {M : MJ} {k : Nat} (K : Nat → Nat) (b : Nat) (h : M k = none) (o : Oj) : tOf (updM M k (some o)) (updF2 K k b) = upd (tOf M K) k (some (b, o.bs)) := by
  funext j
  unfold tOf
  by_cases ej : j = k
  · subst ej; rw [updM_self, upd_self, updF2_self]; rfl
  · rw [updM_ne _ _ ej, upd_ne _ _ ej, updF2_ne _ _ ej]
theorem lOf_new (M : MJ) (k : Nat) (o : Oj) : lOf (updM M k (some o)) = H.updL (lOf M) k (some o.g) := by
  funext s
  unfold lOf H.updL
  rw [getM_upd]
  by_cases e : s = k
  · rw [if_pos e, if_pos e]; rfl
  · rw [if_neg e, if_neg e]
theorem pOf_new (M : MJ) (A : Nat → Nat) (k b : Nat) (o : Oj) : pOf (updM M k (some o)) (updF2 A k b) = updF (pOf M A) k (some (.pointer (some ⟨b, 0, none⟩))) := by
  funext s
  unfold pOf updF
  rw [getM_upd]
  by_cases e : s = k
  · rw [if_pos e, if_pos e, e, Int.toNat_natCast, updF2_self]; rfl
  · rw [if_neg e, if_neg e]
    unfold getM
    by_cases e2 : s < 0
    · simp only [if_pos e2]; rfl
    · simp only [if_neg e2]; rw [updF2_ne _ _ (by omega)]
theorem tOf_none_iff {M : MJ} {K : Nat → Nat} {k : Nat} (h : tOf M K k = none) : M k = none := by
  unfold tOf at h
  cases e : M k with
  | none => rfl
  | some o => rw [e] at h; cases h
theorem tOf_some_iff {M : MJ} {K : Nat → Nat} {k : Nat} (h : (tOf M K k).isSome = true) : (M k).isSome = true := by
  unfold tOf at h
  cases e : M k with
  | none => rw [e] at h; cases h
  | some o => rfl
/-- A new object in the memory: its slot and its handle are there. -/
theorem Hp.newM {w3 W4 W5 W6 W8 : World} {B : Nat} {q : HQ} {room used' : Int} {N' : Int → Nat} {M : MJ} {n' : Nat} {A K : Nat → Nat} {n k hh : Nat} {o : Oj} (ho : Ho Yo w3 B q M A n)
    (hS : SlF Yo w3 B q.s room used' (upd (tOf M K) k (some (hh, o.bs))) n') (hT : H.Tb w3 B q.t q.m1 q.m2 N' (H.updL (lOf M) k (some o.g)) (n + 1)) (hU : Us (upd (tOf M K) k (some (hh, o.bs))) used')
    (hM : M k = none) (hn' : n' ≤ n + 1) (hn5 : n + 1 ≤ 90000) (hne1 : q.m3 ≠ q.m1) (hne2 : q.m3 ≠ q.m2) (hyo : ¬ Yo q.b ∧ ¬ Yo q.t ∧ ¬ Yo q.m1 ∧ ¬ Yo q.m2 ∧ ¬ Yo q.m3) (hoc : 0 ≤ o.c ∧ o.c ≤ n + 1)
    (h45 : Below w3.heap.size w3 W4) (h5 : W5 = W4.alloc (.cells (ojV o) 87)) (hYs : ∀ k, Yo k → k < W4.heap.size)
    (him : IM W6 q.m3 (n + 1) (updF (pOf M A) k (some (.pointer (some ⟨W4.heap.size, 0, none⟩))))) (ht : W5.mapTurned W6 q.m3)
    (hk8 : ∀ (j : Nat) (x : Obj), W6.heap[j]? = some x → (∀ cs z, x ≠ .cells cs 34 z) → W8.heap[j]? = some x) (hs8 : W6.heap.size ≤ W8.heap.size) :
    Hp Yo W8 B q room used' N' (updM M k (some o)) n' (updF2 A k W4.heap.size) (updF2 K k hh) (n + 1) := by
  have hk6 : ∀ (j : Nat) (x : Obj), W5.heap[j]? = some x → j ≠ q.m3 → W6.heap[j]? = some x := fun j x hx hj => (ht.grown.block j (heap_lt hx) (by simp; omega)).trans hx
  have hk5 : ∀ (j : Nat) (x : Obj), w3.heap[j]? = some x → W5.heap[j]? = some x := fun j x hx => by rw [h5]; exact heap_al ((h45.block j (heap_lt hx)).trans hx) _
  have hnm : ∀ (j : Nat) (cs : Array Value) (t : TypeId) (z : Nat × Nat), w3.heap[j]? = some (.cells cs t z) → j ≠ q.m3 := fun j cs t z e => by rintro rfl; exact ho.im.notc e
  have hkc : ∀ (j : Nat) (cs : Array Value) (t : TypeId) (z : Nat × Nat), t ≠ 34 → w3.heap[j]? = some (.cells cs t z) → W8.heap[j]? = some (.cells cs t z) := fun j cs t z h34 e =>
    hk8 _ _ (hk6 _ _ (hk5 _ _ e) (hnm _ _ _ _ e)) (by rintro cs z e; cases e; exact h34 rfl)
  have hsz : w3.heap.size ≤ W8.heap.size := by have h1 := h45.size; have h2 := ht.grown.size; rw [h5] at h2; simp at h2; omega
  obtain ⟨a1, a2, a3, a4, a5, a6⟩ := ho
  have hnew : W8.heap[W4.heap.size]? = some (.cells (ojV o) 87 (0, 0)) := by
    refine hk8 _ _ (hk6 _ _ (by rw [h5]; exact heap_alloc_new W4 _) ?_) (by rintro cs z e; cases e)
    have := a4.lt
    have := h45.size
    omega
  refine ⟨⟨a1, hkc _ _ _ _ (by decide) a2, a3, ?_, fun j x e => ?_, fun i j x y e1 e2 e3 => ?_⟩, ?_, ?_, ?_, hne1, hne2, hn', hn5, hyo⟩
  · rw [pOf_new]
    obtain ⟨es, c, b1, b2⟩ := him
    exact ⟨es, c, hk8 _ _ b1 (by intro cs z e; cases e), b2⟩
  · by_cases ej : j = k
    · subst ej
      rw [updM_self] at e
      cases e
      rw [updF2_self]
      refine ⟨?_, hnew, hoc.1, by omega, fun hy => absurd (hYs _ hy) (Nat.lt_irrefl _)⟩
      have := heap_lt a2
      have := h45.size
      omega
    · rw [updM_ne _ _ ej] at e
      rw [updF2_ne _ _ ej]
      obtain ⟨b1, b2, b3, b4, b5⟩ := a5 j x e
      exact ⟨b1, hkc _ _ _ _ (by decide) b2, b3, by omega, b5⟩
  · have hold : ∀ i x, i ≠ k → updM M k (some o) i = some x → updF2 A k W4.heap.size i < W4.heap.size ∧ updF2 A k W4.heap.size i = A i ∧ M i = some x := fun i x ei e => by
      rw [updM_ne _ _ ei] at e
      rw [updF2_ne _ _ ei]
      have := heap_lt (a5 i x e).2.1
      have := h45.size
      exact ⟨by omega, rfl, e⟩
    by_cases ei : i = k
    · by_cases ej : j = k
      · omega
      · obtain ⟨c1, c2, c3⟩ := hold j y ej e2
        rw [ei, updF2_self] at e3
        omega
    · obtain ⟨c1, c2, c3⟩ := hold i x ei e1
      by_cases ej : j = k
      · rw [ej, updF2_self] at e3
        omega
      · obtain ⟨d1, d2, d3⟩ := hold j y ej e2
        exact a6 i j x y c3 d3 (by omega)
  · rw [tOf_new _ _ hM]
    exact hS.byT hsz fun j cs t z ht e => hkc _ _ _ _ (by rcases ht with e | e | e <;> rw [e] <;> decide) e
  · rw [lOf_new]
    refine tb_byK hT fun j x hx hm => ?_
    rcases hm with ⟨hj, hm⟩ | ⟨cs, z, rfl⟩
    · exact hk8 _ _ (hk6 _ _ (hk5 _ _ hx) (by rcases hj with e | e <;> rw [e] <;> first | exact hne1.symm | exact hne2.symm)) (fun cs z => hm cs 34 z)
    · exact hkc _ _ _ _ (by decide) hx
  · rw [tOf_new _ _ hM]
    exact hU
set_option maxHeartbeats 1000000 in
theorem hmake_ok (w : World) (B : Nat) (q : HQ) (room used : Int) (N : Int → Nat) (M : MJ) (ns : Nat) (A K : Nat → Nat) (n : Nat) (h : Hp Yo w B q room used N M ns A K n) (hT : Tab w) (h0 : 0 < B) (a : Int) (s : Nat) (hs : 1 ≤ s ∧ s ≤ 128) (hf : used + clsM s ≤ room) (hn : n + 1 ≤ 90000) :
    Calls Tryd.prog 13 #[.pointer (some ⟨q.b, 0, none⟩), .int .i64 a, .int .i64 s] w fun e w' => ∃ k : Nat, e = .returned (.tuple #[H.hdV k (N k + 1), .int .i64 0]) ∧ M k = none ∧ (∀ j, j < k → (M j).isSome = true) ∧
      (∃ ns' A' K', Hp Yo w' B q room (used + clsM s) (H.updN N k (N k + 1)) (updM M k (some ⟨N k + 1, 1, a, List.replicate s 0⟩)) ns' A' K' (n + 1)) ∧ Fq Yo B q w w' := by
  have hB := h.size
  have hbe := (Below.refl w.heap.size w).alloc (Nat.le_refl _) (.cells #[.int .i64 0, .int .u64 0] 34)
  have hz := heap_alloc_new w (.cells #[.int .i64 0, .int .u64 0] 34)
  have h1 := h.kept hbe
  have hT1 := hT.gr (B := w.heap.size) (by omega) hbe
  have hc := h1.ow.cells
  have hWs : w.heap.size < (w.alloc (.cells #[.int .i64 0, .int .u64 0] 34)).heap.size := by simp
  generalize hW : w.alloc (.cells #[.int .i64 0, .int .u64 0] 34) = W at h1 hT1 hbe hz hc hWs
  have c0 : W.cell? ⟨q.b, 0, none⟩ = some (.pointer (some ⟨q.s, 0, none⟩)) := by rw [cell_of hc]; rfl
  have c2 : W.cell? ⟨q.b, 2, none⟩ = some (.map (some q.m3)) := by rw [cell_of hc]; rfl
  have k1 := hmade_yes W q.b q.m3 c2
  have k2 := take_ok W _ _ _ _ _ _ h1.sl hT1 s hs hf (by omega) (by have := h.nn; omega)
  obtain ⟨cs, hcs⟩ := h1.sl.cellsS
  go_enter Tryd.func13, Tryd.ntmps13
  go_upto_region 6 with (first | (go_at_call 31; refine k1.mono ?_; rintro e w' ⟨rfl, hw⟩; rw [hw]; clear hw) | (go_at_call 32; refine k2.mono ?_; rintro e w2 ⟨k, rfl, hk1, hk2, hk3, ⟨hh, n', hn', hS2⟩, hF2⟩))
  have hz2 : w2.heap[w.heap.size]? = some (.cells #[.int .i64 0, .int .u64 0] 34 (0, 0)) := hF2.keep _ _ (by rintro e; rw [← e, hz] at hcs; cases hcs) hz (by intro cs z e; cases e) (by intro cs z e; cases e)
  have ho2 := h1.ow.fr hF2 hcs
  have hT2 := tb_fr h1.tb hF2 hcs
  have hMk := tOf_none_iff hk1
  have hkn : k < 90000 * 64 := by have := h.nn; omega
  have hI : I64 (k : Int) := by unfold I64; omega
  have k3 := H.make_ok w2 _ _ _ _ _ _ _ hT2 k (by omega) hI (by rw [lOf_nat, hMk]; rfl) (by omega)
  have hu2 := h.us.upd k (some (hh, List.replicate s 0))
  rw [hk1, clsO_some, List.length_replicate, show clsO none = 0 from rfl, show used + clsM s - 0 = used + clsM s by omega] at hu2
  have hNle := h.tb.bd k
  have d1 : w2.cell? ⟨q.b, 1, none⟩ = some (.pointer (some ⟨q.t, 0, none⟩)) := by rw [cell_of ho2.cells]; rfl
  replace hu2 : Hid _ := hu2
  replace hk1 : Hid _ := hk1
  replace hk2 : Hid _ := hk2
  clear k1 k2 c0 c2
  go_upto_region 7 with (go_at_call 33; refine k3.mono ?_; unfold H.hdV; rintro e w3 ⟨rfl, hT3, hF3⟩)
  have hz3 : w3.heap[w.heap.size]? = some (.cells #[.int .i64 0, .int .u64 0] 34 (0, 0)) := by
    obtain ⟨F, hF1, _⟩ := hT2.im1
    exact (hF3.keep _ (heap_lt hz2) (by intro e; rw [e] at hz2; exact hF1.notc hz2) (by intro e; rw [e] at hz2; exact hT2.im2.notc hz2)).trans hz2
  have ho3 := ho2.fh hT2 hF3 h1.ne1 h1.ne2
  have hS3 := hS2.fh hT2 hF3
  have hy4 := heap_alloc_new w3 (.cells #[.int .i64 k, .int .u64 ((N k : Int) + 1)] 34)
  have hz4 := heap_al hz3 (.cells #[.int .i64 k, .int .u64 ((N k : Int) + 1)] 34)
  have h34 : Below w3.heap.size w3 (w3.alloc (.cells #[.int .i64 k, .int .u64 ((N k : Int) + 1)] 34)) := (Below.refl _ w3).alloc (Nat.le_refl _) _
  have hyz : w3.heap.size ≠ w.heap.size := by have := heap_lt hz3; omega
  clear k3 d1
  generalize w3.alloc (.cells #[.int .i64 k, .int .u64 ((N k : Int) + 1)] 34) = W4 at hy4 hz4 h34 ⊢
  have ho4 := ho3.below h34
  have e2 : W4.cell? ⟨q.b, 2, none⟩ = some (.map (some q.m3)) := by rw [cell_of ho4.cells]; rfl
  obtain ⟨W6, p6, i6, t6⟩ := IM.put (w := W4.alloc (.cells #[.int .i64 1, .int .i64 a] 87)) Tryd.underlying75 Tryd.underlying3 (ho4.im.alloc _) hI (.pointer (some ⟨W4.heap.size, 0, none⟩))
  have hk6 : ∀ (j : Nat) (cs : Array Value) (t : TypeId) (z : Nat × Nat), W4.heap[j]? = some (.cells cs t z) → W6.heap[j]? = some (.cells cs t z) := fun j cs t z e =>
    (t6.grown.block j (heap_lt (heap_al e _)) (by simp; rintro rfl; exact ho4.im.notc e)).trans (heap_al e _)
  have hy6 := hk6 _ _ _ _ hy4
  have hz6 := hk6 _ _ _ _ hz4
  go_upto_region 8 with fail
  obtain ⟨x0, x1⟩ := put_hd hz6 (.int .i64 k) (.int .u64 ((N k : Int) + 1))
  have f0 := froz_of hz6 0
  have f1 := froz_of hz6 1
  have g0 := cell_of hz6 0
  have g1 := cell_of hz6 1
  have y0 := cell_of hy6 0
  have y1 := cell_of hy6 1
  simp at g0 g1 y0 y1
  have hout : Hid ((∃ ns' A' K', Hp Yo ((W6.setCell ⟨w.heap.size, 0, none⟩ (.int .i64 k)).setCell ⟨w.heap.size, 1, none⟩ (.int .u64 ((N k : Int) + 1))) B q room (used + clsM s) (H.updN N k (N k + 1)) (updM M k (some ⟨N k + 1, 1, a, List.replicate s 0⟩)) ns' A' K' (n + 1))
      ∧ Fq Yo B q w ((W6.setCell ⟨w.heap.size, 0, none⟩ (.int .i64 k)).setCell ⟨w.heap.size, 1, none⟩ (.int .u64 ((N k : Int) + 1)))) := by
    have hb3 : B ≤ w3.heap.size := Nat.le_trans (Nat.le_trans hB hbe.size) (Nat.le_trans hF2.bel.size hF3.bel.size)
    refine ⟨⟨n', updF2 A k W4.heap.size, updF2 K k hh, Hp.newM (o := ⟨N k + 1, 1, a, List.replicate s 0⟩) (N' := H.updN N k (N k + 1)) ho3 hS3 hT3 hu2.out hMk (by have := h.nn; omega) hn h1.ne1 h1.ne2 h1.yo (by simp only; omega) h34 rfl ?_ i6 t6 ?_ (by simp)⟩, ?_⟩
    · intro j hj
      have := h.sl.off.1 j hj
      have := hbe.size
      have := hF2.bel.size
      have := hF3.bel.size
      have := h34.size
      omega
    · intro j x hx hn
      have hne : j ≠ w.heap.size := by rintro rfl; rw [hz6] at hx; cases hx; exact hn _ _ rfl
      exact heap_set (heap_set hx hne) hne
    · have f1 : Fq Yo B q w w3 := ((Fq.of hbe hB).trans (Fq.ofS hF2)).trans (Fq.ofT hF3 h.yo.2.2.1 h.yo.2.2.2.1)
      have f2 : Fq Yo B q w W4 := f1.trans (Fq.of h34 hb3)
      have f3 := f2.alloc hB (.cells #[.int .i64 1, .int .i64 a] 87)
      have f4 : Fq Yo B q w W6 := f3.trans (Fq.ofM t6 h.ow.b3 (by have := h34.size; simp; omega) h.yo.2.2.2.2)
      exact (f4.set (Nat.le_refl _) hB _).set (Nat.le_refl _) hB _
  clear p6 e2 i6 t6 hk6
  go_wp2
  refine bodyPost_ret (by simp [results, Tryd.results13, go_sem, x0, x1]; try rfl) rfl ?_
  exact ⟨k, rfl, hMk, fun j hj => tOf_some_iff (hk2.out j hj), hout.out⟩
end Go.Proofs.YtooblonafnlfcaaDoor
