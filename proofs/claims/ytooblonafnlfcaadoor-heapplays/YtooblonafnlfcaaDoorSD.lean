/- Towards the statements of package slab (layer 12): a slot is filled. -/
import Derived.Test.YtooblonafnlfcaaDoorSC
import Derived.Maps.AppendAt
namespace Go.Proofs.YtooblonafnlfcaaDoor
open Go.ChangeShapes Go.WideShapes Go.ChangeAt Go.RowKit
set_option linter.unusedVariables false
set_option linter.unusedSimpArgs false
set_option maxRecDepth 20000
variable {Yo : Nat → Prop}
/-- What a call of a slab leaves: all below B as it was, and all beside the slab's own. -/
structure FrF (Yo : Nat → Prop) (B b : Nat) (w w' : World) : Prop where
  bel : Below B w w'
  keep : ∀ k o, k ≠ b → w.heap[k]? = some o → (∀ cs z, o ≠ .cells cs 124 z) → (∀ cs z, o ≠ .cells cs 5 z) → w'.heap[k]? = some o
  far : ∀ k, Yo k → k < w.heap.size → w'.heap[k]? = w.heap[k]?
theorem FrF.refl (B b : Nat) (w : World) : FrF Yo B b w w := ⟨Below.refl _ _, fun _ _ _ h _ _ => h, fun _ _ _ => rfl⟩
theorem FrF.trans {B b : Nat} {w0 w1 w2 : World} (h : FrF Yo B b w0 w1) (k : FrF Yo B b w1 w2) : FrF Yo B b w0 w2 :=
  ⟨h.bel.trans k.bel, fun i o hi ho h73 h5 => k.keep i o hi (h.keep i o hi ho h73 h5) h73 h5, fun i hi hl => (k.far i hi (Nat.lt_of_lt_of_le hl h.bel.size)).trans (h.far i hi hl)⟩
theorem FrF.drew {B b : Nat} {w0 w1 : World} (h : FrF Yo B b w0 w1) : FrF Yo B b w0 w1.drew := ⟨h.bel.drew, h.keep, h.far⟩
theorem FrF.alloc {B b : Nat} {w0 w1 : World} (h : FrF Yo B b w0 w1) (hB : B ≤ w1.heap.size) (o : Obj) : FrF Yo B b w0 (w1.alloc o) :=
  ⟨h.bel.alloc hB o, fun i x hi hx h73 h5 => by
    have := h.keep i x hi hx h73 h5
    rw [Below.heap_alloc _ _ _ (by have := (Array.getElem?_eq_some_iff.1 this).1; exact this)]
    exact this, fun i hi hl => (Below.heap_alloc _ _ _ (Nat.lt_of_lt_of_le hl h.bel.size)).trans (h.far i hi hl)⟩
theorem heap_lt {w : World} {k : Nat} {o : Obj} (h : w.heap[k]? = some o) : k < w.heap.size := (Array.getElem?_eq_some_iff.1 h).1
def upd (T : Nat → Th) (k : Nat) (x : Th) : Nat → Th := fun s => if s = k then x else T s
theorem upd_self (T : Nat → Th) (k : Nat) (x : Th) : upd T k x k = x := by simp [upd]
theorem upd_ne (T : Nat → Th) {k s : Nat} (x : Th) (h : s ≠ k) : upd T k x s = T s := by simp [upd, h]
theorem cnt_other (T : Nat → Th) (k i : Nat) (x : Th) (h : i ≠ k / 64) : cnt (upd T k x) i = cnt T i := by
  unfold cnt
  congr 1
  apply List.filter_congr
  intro j hj
  simp only [List.mem_range] at hj
  rw [upd_ne]
  omega
theorem filter_one (p q : Nat → Bool) (j0 : Nat) : ∀ n, (∀ j, j ≠ j0 → p j = q j) → p j0 = false → q j0 = true → ((List.range n).filter q).length = ((List.range n).filter p).length + (if j0 < n then 1 else 0)
  | 0, _, _, _ => by simp
  | n + 1, h, hp, hq => by
    have ih := filter_one p q j0 n h hp hq
    rw [List.range_succ, List.filter_append, List.filter_append, List.length_append, List.length_append, ih]
    by_cases e : n = j0
    · subst e; simp [hp, hq]
    · rw [show List.filter q [n] = List.filter p [n] by simp [List.filter, h n e]]
      by_cases l : j0 < n
      · rw [if_pos l, if_pos (by omega)]; omega
      · rw [if_neg l, if_neg (by omega)]; omega
theorem cnt_take (T : Nat → Th) (k : Nat) (x : Nat × List Int) (h : T k = none) : cnt (upd T k (some x)) (k / 64) = cnt T (k / 64) + 1 := by
  have e : 64 * (k / 64) + k % 64 = k := Nat.div_add_mod k 64
  have := filter_one (fun j => (T (64 * (k / 64) + j)).isSome) (fun j => (upd T k (some x) (64 * (k / 64) + j)).isSome) (k % 64) 64
    (fun j hj => by rw [upd_ne]; omega) (by simp only [e, h]; rfl) (by simp only [e, upd_self]; rfl)
  rw [if_pos (by omega)] at this
  exact this
theorem cnt_give (T : Nat → Th) (k : Nat) (x : Nat × List Int) (h : T k = some x) : cnt (upd T k none) (k / 64) + 1 = cnt T (k / 64) := by
  have e : 64 * (k / 64) + k % 64 = k := Nat.div_add_mod k 64
  have := filter_one (fun j => (upd T k none (64 * (k / 64) + j)).isSome) (fun j => (T (64 * (k / 64) + j)).isSome) (k % 64) 64
    (fun j hj => by rw [upd_ne]; omega) (by simp only [e, upd_self]; rfl) (by simp only [e, h]; rfl)
  rw [if_pos (by omega)] at this
  exact this.symm
/-- One slot of the rows is set anew. -/
theorem RowsOk.set {xs : List Value} {T : Nat → Th} {n k : Nat} (h : RowsOk xs T n) (hk : k < 64 * n) (x : Th) :
    RowsOk ((xs.set (k / 64 * 65 + 1 + k % 64) (thV x)).set (k / 64 * 65) (.int .i64 (cnt (upd T k x) (k / 64)))) (upd T k x) n := by
  refine ⟨by simpa using h.len, fun i j hi hj => ?_, fun i hi => ?_⟩
  · rw [List.getElem?_set_ne (by omega)]
    by_cases e : 64 * i + j = k
    · have e1 : i = k / 64 := by omega
      have e2 : j = k % 64 := by omega
      rw [e1, e2, List.getElem?_set_self (by rw [h.len]; omega), Nat.div_add_mod, upd_self]
    · rw [List.getElem?_set_ne (by omega), upd_ne _ _ e]
      exact h.th i j hi hj
  · by_cases e : i = k / 64
    · rw [e, List.getElem?_set_self (by simp [h.len]; omega)]
    · rw [List.getElem?_set_ne (by omega), List.getElem?_set_ne (by omega), cnt_other _ _ _ _ e]
      exact h.ct i hi
def zrow : List Value := .int .i64 0 :: List.replicate 64 (.slice none 0 0)
theorem RowsOk.more {xs : List Value} {T : Nat → Th} {n : Nat} (h : RowsOk xs T n) (ho : ∀ s, 64 * n ≤ s → T s = none) : RowsOk (xs ++ zrow) T (n + 1) := by
  have hl := h.len
  refine ⟨by simp [zrow, hl]; omega, fun i j hi hj => ?_, fun i hi => ?_⟩
  · by_cases e : i < n
    · rw [List.getElem?_append_left (by omega)]
      exact h.th i j e hj
    · obtain rfl : i = n := by omega
      rw [List.getElem?_append_right (by omega), show i * 65 + 1 + j - xs.length = j + 1 by omega, ho _ (by omega)]
      rw [zrow, List.getElem?_cons_succ, List.getElem?_replicate, if_pos hj]
      rfl
  · by_cases e : i < n
    · rw [List.getElem?_append_left (by omega)]
      exact h.ct i e
    · obtain rfl : i = n := by omega
      rw [List.getElem?_append_right (by omega), show i * 65 - xs.length = 0 by omega]
      have : cnt T i = 0 := by
        unfold cnt
        rw [List.length_eq_zero_iff, List.filter_eq_nil_iff]
        intro j hj
        rw [ho _ (by omega)]
        simp
      simp [zrow, this]
theorem heap_set {W : World} {g j : Nat} {u : Value} {k : Nat} {o : Obj} (hk : W.heap[k]? = some o) (hne : k ≠ g) : (W.setCell ⟨g, j, none⟩ u).heap[k]? = some o := by
  rw [Below.heap_setCell _ _ _ _ (by simpa using hne)]
  exact hk
theorem heap_al {W : World} {k : Nat} {o : Obj} (hk : W.heap[k]? = some o) (x : Obj) : (W.alloc x).heap[k]? = some o := by
  rw [Below.heap_alloc _ _ _ (heap_lt hk)]
  exact hk
theorem FrF.set {B b : Nat} {w0 w1 : World} (h : FrF Yo B b w0 w1) {g : Nat} {cs : Array Value} {t : TypeId} (hg : w1.heap[g]? = some (.cells cs t (0, 0))) (ht : g = b ∨ t = 124 ∨ t = 5) (hB : B ≤ g) (hn : ¬ Yo g) (j : Nat) (u : Value) : FrF Yo B b w0 (w1.setCell ⟨g, j, none⟩ u) :=
  ⟨h.bel.setCell hB u, fun i o hi ho h73 h5 => by
    have := h.keep i o hi ho h73 h5
    refine heap_set this fun e => ?_
    subst e
    rw [hg] at this
    cases this
    rcases ht with e | rfl | rfl
    · exact hi e
    · exact h73 _ _ rfl
    · exact h5 _ _ rfl, fun k hk hl => (Below.heap_setCell _ _ _ _ (by rintro rfl; exact hn hk)).trans (h.far k hk hl)⟩
theorem own_g {w : World} {B n : Nat} {v : Value} {xs : List Value} (h : w.ownsRow B 124 65 v n xs) {g : Nat} (hg : v.ownBlock = some g) : ∃ cur, w.heap[g]? = some (.cells cur 124 (0, 0)) ∧ B ≤ g := by
  rcases h.2 with ⟨e, _⟩ | ⟨g', cap, cur, e, h1, h2, _⟩
  · subst e; cases hg
  · subst e
    simp only [Value.ownBlock, Option.some.injEq] at hg
    subst hg
    exact ⟨cur, h2, h1⟩
theorem Off.upd {w : World} {b : Nat} {T : Nat → Th} (h : Off Yo w b T) (k : Nat) (x : Th) (hx : ∀ hh bs, x = some (hh, bs) → ¬ Yo hh) : ∀ s hh bs, upd T k x s = some (hh, bs) → ¬ Yo hh := by
  intro s hh bs e
  by_cases e2 : s = k
  · subst e2; rw [upd_self] at e; exact hx _ _ e
  · rw [upd_ne _ _ e2] at e; exact h.2.2.1 _ _ _ e
/-- A slot is filled (or emptied) in a row that is there. -/
theorem SlF.fillM {W : World} {B b : Nat} {room used : Int} {T : Nat → Th} {n : Nat} (h : SlF Yo W B b room used T n) {v : Value} {xs : List Value}
    (hb : W.heap[b]? = some (.cells #[.bool true, .int .i64 room, .int .i64 used, v] 100 (0, 0))) (hv : W.ownsRow B 124 65 v n xs) (hx : RowsOk xs T n)
    {g cap : Nat} (hvg : v = .slice (some ⟨g, 0, none⟩) n cap) {k : Nat} (hk : k < 64 * n) (hT : T k = none) {s : Nat} (hs : 1 ≤ s ∧ s ≤ 128) (hBW : B ≤ W.heap.size) :
    SlF Yo (((W.alloc (.cells (byV (List.replicate s 0)) 5)).setCell ⟨g, k / 64 * 65 + 1 + k % 64, none⟩ (.slice (some ⟨W.heap.size, 0, none⟩) s s)).setCell ⟨g, k / 64 * 65, none⟩ (.int .i64 ((cnt T (k / 64) : Int) + 1))) B b room used (upd T k (some (W.heap.size, List.replicate s 0))) n
    ∧ FrF Yo B b W (((W.alloc (.cells (byV (List.replicate s 0)) 5)).setCell ⟨g, k / 64 * 65 + 1 + k % 64, none⟩ (.slice (some ⟨W.heap.size, 0, none⟩) s s)).setCell ⟨g, k / 64 * 65, none⟩ (.int .i64 ((cnt T (k / 64) : Int) + 1))) := by
  subst hvg
  obtain ⟨cur, hg, hgB⟩ := own_g (g := g) hv rfl
  have hgY := h.offr hb g rfl
  have hbg : b ≠ g := by rintro rfl; rw [hg] at hb; cases hb
  have hgs := heap_lt hg
  have o1 := hv.alloc (.cells (byV (List.replicate s 0)) 5)
  have o2 := (o1.stored (k / 64 * 65 + 1 + k % 64) (.slice (some ⟨W.heap.size, 0, none⟩) s s)).1
  have o3 := (o2.stored (k / 64 * 65) (.int .i64 ((cnt T (k / 64) : Int) + 1))).1
  have r3 := hx.set hk (some (W.heap.size, List.replicate s 0))
  rw [cnt_take T k _ hT] at r3
  have e1 : thV (some (W.heap.size, List.replicate s 0)) = .slice (some ⟨W.heap.size, 0, none⟩) s s := by simp [thV]
  rw [e1] at r3
  refine ⟨⟨h.bB, h.nb, h.rm, h.us, ⟨_, _, heap_set (heap_set (heap_al hb _) hbg) hbg, o3, by simpa using r3⟩, fun t ht => ?_, fun t hh bs ht => ?_, fun t t2 hh bs cs ht ht2 => ?_, h.off.go (by simp) (heap_set (heap_set (heap_al hb _) hbg) hbg) (h.offr hb) (h.off.upd _ _ (by rintro _ _ e q; cases e; exact absurd (h.off.1 _ q) (Nat.lt_irrefl _)))⟩, ?_⟩
  · rw [upd_ne _ _ (by omega)]; exact h.out t ht
  · by_cases e : t = k
    · subst e
      rw [upd_self] at ht
      cases ht
      refine ⟨hBW, heap_set (heap_set (heap_alloc_new W _) (by omega)) (by omega), by simpa using hs.1, by simpa using hs.2, fun x hx => ?_⟩
      obtain rfl := List.eq_of_mem_replicate hx
      omega
    · rw [upd_ne _ _ e] at ht
      obtain ⟨a1, a2, a3, a4, a5⟩ := h.th t hh bs ht
      have hne : hh ≠ g := by rintro rfl; rw [hg] at a2; cases a2
      exact ⟨a1, heap_set (heap_set (heap_al a2 _) hne) hne, a3, a4, a5⟩
  · by_cases e : t = k <;> by_cases e2 : t2 = k
    · omega
    · subst e
      rw [upd_self] at ht
      rw [upd_ne _ _ e2] at ht2
      cases ht
      have := heap_lt (h.th t2 _ _ ht2).2.1
      omega
    · subst e2
      rw [upd_self] at ht2
      rw [upd_ne _ _ e] at ht
      cases ht2
      have := heap_lt (h.th t _ _ ht).2.1
      omega
    · rw [upd_ne _ _ e] at ht
      rw [upd_ne _ _ e2] at ht2
      exact h.apart t t2 hh bs cs ht ht2
  · have f1 := (FrF.refl (Yo := Yo) B b W).alloc hBW (.cells (byV (List.replicate s 0)) 5)
    have g1 := heap_al hg (.cells (byV (List.replicate s 0)) 5)
    have f2 := f1.set g1 (.inr (.inl rfl)) hgB hgY (k / 64 * 65 + 1 + k % 64) (.slice (some ⟨W.heap.size, 0, none⟩) s s)
    have g2 := heap_setCell_same _ g (k / 64 * 65 + 1 + k % 64) _ _ (.slice (some ⟨W.heap.size, 0, none⟩) s s) g1
    exact f2.set g2 (.inr (.inl rfl)) hgB hgY _ _
theorem SlF.emptyM {W : World} {B b : Nat} {room used : Int} {T : Nat → Th} {n : Nat} (h : SlF Yo W B b room used T n) {v : Value} {xs : List Value}
    (hb : W.heap[b]? = some (.cells #[.bool true, .int .i64 room, .int .i64 used, v] 100 (0, 0))) (hv : W.ownsRow B 124 65 v n xs) (hx : RowsOk xs T n)
    {g cap : Nat} (hvg : v = .slice (some ⟨g, 0, none⟩) n cap) {k : Nat} (hk : k < 64 * n) {x : Nat × List Int} (hT : T k = some x) :
    SlF Yo ((W.setCell ⟨g, k / 64 * 65 + 1 + k % 64, none⟩ (.slice none 0 0)).setCell ⟨g, k / 64 * 65, none⟩ (.int .i64 ((cnt T (k / 64) : Int) - 1))) B b room used (upd T k none) n
    ∧ FrF Yo B b W ((W.setCell ⟨g, k / 64 * 65 + 1 + k % 64, none⟩ (.slice none 0 0)).setCell ⟨g, k / 64 * 65, none⟩ (.int .i64 ((cnt T (k / 64) : Int) - 1))) := by
  subst hvg
  obtain ⟨cur, hg, hgB⟩ := own_g (g := g) hv rfl
  have hgY := h.offr hb g rfl
  have hbg : b ≠ g := by rintro rfl; rw [hg] at hb; cases hb
  have o2 := (hv.stored (k / 64 * 65 + 1 + k % 64) (.slice none 0 0)).1
  have o3 := (o2.stored (k / 64 * 65) (.int .i64 ((cnt T (k / 64) : Int) - 1))).1
  have r3 := hx.set hk none
  have hc := cnt_give T k _ hT
  rw [show ((cnt (upd T k none) (k / 64) : Nat) : Int) = (cnt T (k / 64) : Int) - 1 by omega] at r3
  refine ⟨⟨h.bB, h.nb, h.rm, h.us, ⟨_, _, heap_set (heap_set hb hbg) hbg, o3, by simpa [thV] using r3⟩, fun t ht => ?_, fun t hh bs ht => ?_, fun t t2 hh bs cs ht ht2 => ?_, h.off.go (by simp) (heap_set (heap_set hb hbg) hbg) (h.offr hb) (h.off.upd _ _ (by intro _ _ e; cases e))⟩, ?_⟩
  · rw [upd_ne _ _ (by omega)]; exact h.out t ht
  · by_cases e : t = k
    · subst e
      rw [upd_self] at ht
      cases ht
    · rw [upd_ne _ _ e] at ht
      obtain ⟨a1, a2, a3, a4, a5⟩ := h.th t hh bs ht
      have hne : hh ≠ g := by rintro rfl; rw [hg] at a2; cases a2
      exact ⟨a1, heap_set (heap_set a2 hne) hne, a3, a4, a5⟩
  · by_cases e : t = k
    · subst e
      rw [upd_self] at ht
      cases ht
    by_cases e2 : t2 = k
    · subst e2
      rw [upd_self] at ht2
      cases ht2
    rw [upd_ne _ _ e] at ht
    rw [upd_ne _ _ e2] at ht2
    exact h.apart t t2 hh bs cs ht ht2
  · have f2 := (FrF.refl (Yo := Yo) B b W).set hg (.inr (.inl rfl)) hgB hgY (k / 64 * 65 + 1 + k % 64) (.slice none 0 0)
    have g2 := heap_setCell_same _ g (k / 64 * 65 + 1 + k % 64) _ _ (.slice none 0 0) hg
    exact f2.set g2 (.inr (.inl rfl)) hgB hgY _ _
/-- One row more. -/
theorem SlF.moreM {W W2 : World} {B b : Nat} {room used : Int} {T : Nat → Th} {n : Nat} (h : SlF Yo W B b room used T n) {v v' : Value} {xs : List Value}
    (hb : W.heap[b]? = some (.cells #[.bool true, .int .i64 room, .int .i64 used, v] 100 (0, 0))) (hv : W.ownsRow B 124 65 v n xs) (hx : RowsOk xs T n)
    {o : Obj} (hv' : W2.ownsRow B 124 65 v' (n + 1) (xs ++ zrow)) (hgr : (W.alloc o).grownBy W2 v.ownBlock) (hloc : v'.ownBlock = v.ownBlock ∨ v'.ownBlock = some (W.alloc o).heap.size) (hn : n + 1 ≤ 100000) (hBW : B ≤ W.heap.size) :
    SlF Yo (W2.setCell ⟨b, 3, none⟩ v') B b room used T (n + 1) ∧ FrF Yo B b W (W2.setCell ⟨b, 3, none⟩ v') := by
  have hkeep : ∀ (k : Nat) (x : Obj), W.heap[k]? = some x → (∀ cs z, x ≠ .cells cs 124 z) → W2.heap[k]? = some x := by
    intro k x hk h73
    have h1 := heap_al hk o
    rw [hgr.block k (heap_lt h1) ?_]
    · exact h1
    · intro e
      obtain ⟨cur, hg, _⟩ := own_g hv e.symm
      rw [hk] at hg
      cases hg
      exact h73 _ _ rfl
  have hb2 : W2.heap[b]? = some (.cells #[.bool true, .int .i64 room, .int .i64 used, v] 100 (0, 0)) := hkeep b _ hb (by intro cs z e; cases e)
  have hb3 := heap_setCell_same W2 b 3 _ _ v' hb2
  have hbB : B ≤ b := h.bB
  have hbel : Below B W W2 := ((Below.refl B W).alloc hBW o).grown hgr (by simp; omega) (fun k e => (own_g hv e).elim fun _ q => q.2)
  refine ⟨⟨h.bB, hn, h.rm, h.us, ⟨v', xs ++ zrow, by simpa using hb3, ?_, hx.more h.out⟩, fun t ht => h.out t (by omega), fun t hh bs ht => ?_, h.apart, h.off.go (by have := hbel.size; simpa using this) (by simpa using hb3) (fun g e q => by
      rcases hloc with e2 | e2
      · rw [e2] at e; exact h.offr hb g e q
      · rw [e2] at e; cases e; have := h.off.1 _ q; simp at this; omega) h.off.2.2.1⟩, ⟨hbel.setCell hbB v', fun k x hk hx1 h73 h5 => heap_set (hkeep k x hx1 h73) hk, fun k hk hl => ?_⟩⟩
  · refine ⟨hv'.1, ?_⟩
    rcases hv'.2 with e | ⟨g, cap, cur, e, a1, a2, a3⟩
    · exact .inl e
    · refine .inr ⟨g, cap, cur, e, a1, heap_set a2 ?_, a3⟩
      rintro rfl
      rw [hb2] at a2
      cases a2
  · obtain ⟨a1, a2, a3, a4, a5⟩ := h.th t hh bs ht
    refine ⟨a1, heap_set (hkeep _ _ a2 (by intro cs z e; cases e)) ?_, a3, a4, a5⟩
    rintro rfl
    rw [hb] at a2
    simp at a2
  · rw [Below.heap_setCell _ _ _ _ (by rintro rfl; exact h.off.2.1 hk), hgr.block k (by simp; omega) (by intro e; exact h.offr hb k e.symm hk), Below.heap_alloc _ _ _ hl]
end Go.Proofs.YtooblonafnlfcaaDoor
