/- Towards the statements of package heap (layer 14): rows of handles, maps from handles; heavy, pick. -/
import Derived.Test.YtooblonafnlfcaaDoorPS
import Derived.Test.YtooblonafnlfcaaDoorMH
namespace Go.Proofs.YtooblonafnlfcaaDoor
open Go.ChangeShapes Go.WideShapes Go.ChangeAt Go.RowKit
open H
set_option linter.unusedVariables false
set_option linter.unusedSimpArgs false
set_option maxRecDepth 20000
variable {Yo : Nat → Prop}
theorem row_kept {w w' : World} {B t sz n : Nat} {v : Value} {xs : List Value} (h : w.ownsRow B t sz v n xs) (hk : ∀ g, v.ownBlock = some g → w'.heap[g]? = w.heap[g]?) : w'.ownsRow B t sz v n xs := by
  refine ⟨h.1, ?_⟩
  rcases h.2 with e | ⟨g, cap, cur, e, h1, h2, h3⟩
  · exact .inl e
  · exact .inr ⟨g, cap, cur, e, h1, (hk g (by rw [e]; rfl)).trans h2, h3⟩
theorem row_cells {w : World} {B t sz n : Nat} {v : Value} {xs : List Value} (h : w.ownsRow B t sz v n xs) {g : Nat} (hg : v.ownBlock = some g) : ∃ cur, w.heap[g]? = some (.cells cur t (0, 0)) := by
  rcases h.2 with ⟨e, _⟩ | ⟨g', cap, cur, e, h1, h2, h3⟩
  · subst e; cases hg
  · subst e
    simp only [Value.ownBlock, Option.some.injEq] at hg
    subst hg
    exact ⟨cur, h2⟩
theorem hm_notc {w : World} {m n : Nat} {F : HKey → Option Value} (h : HM w m n F) {cs : Array Value} {t : TypeId} {z : Nat × Nat} (e : w.heap[m]? = some (.cells cs t z)) : False := by
  obtain ⟨es, c, h1, _⟩ := h
  rw [h1] at e
  cases e
theorem zero3h (w : World) : (zeroValue 3).run Tryd.prog w = .ok (.int .i64 0) w := by kernel_rfl
/-- A handle of a row. -/
theorem idx34 {w : World} {B : Nat} {p : Option Addr} {A : List HKey} {c : Nat} (h : w.ownsRow B 34 2 (.slice p A.length c) A.length (hCells A)) {j : Nat} (hj : j < A.length) (hl : A.length ≤ 100000) :
    ∃ g x, A[j]? = some x ∧ g < w.heap.size ∧ (Value.slice p A.length c).ownBlock = some g ∧ w.cell? ⟨g, j * 2, none⟩ = some (.int .i64 x.1) ∧ w.cell? ⟨g, j * 2 + 1, none⟩ = some (.int .u64 x.2) ∧ ∀ W, (Instr.indexAt 31 (.slice p A.length c) (.int .i64 j)).run Tryd.prog W = .ok (.pointer (some ⟨g, j * 2, none⟩)) W := by
  rcases h.2 with ⟨e, e2⟩ | ⟨g, cap, cur, e, h1, h2, h3⟩
  · omega
  · cases e
    have hx := List.getElem?_eq_getElem hj
    have hc := hCells_at A j _ hx
    refine ⟨g, A[j], hx, heap_lt h2, rfl, ?_, ?_, fun W => ?_⟩
    · rw [h.cellAt _ (by omega)]; exact hc.1
    · rw [h.cellAt _ (by omega)]; exact hc.2
    · have hi2 : (j : Int) < A.length := by omega
      simp [go_sem, hj]
theorem hm_look {w : World} {m n : Nat} {F : HKey → Option Value} (h : HM w m n F) (s : Int) (g : Nat) : (Instr.lookup 57 (.map (some m)) (.agg #[.int .i64 s, .int .u64 g]) false).run Tryd.prog w = .ok ((F (s, g)).getD (.int .i64 0)) w :=
  HM.look1 Tryd.underlying57 h (s, g) (zero3h w)
theorem hm_put {w : World} {m n : Nat} {F : HKey → Option Value} (h : HM w m n F) (s : Int) (g : Nat) (v : Value) : ∃ w', (Instr.mapUpdate 57 (.map (some m)) (.agg #[.int .i64 s, .int .u64 g]) v).run Tryd.prog w = .ok () w' ∧ HM w' m (n + 1) (updH F (s, g) (some v)) ∧ w.mapTurned w' m :=
  HM.put Tryd.underlying57 h (k := (s, g)) trivial v
/-- A step as a value. -/
def spV (x : Sp) : Value := .agg #[.int .i64 x.d, .int .i64 x.o, .int .i64 x.k, .int .i64 x.a, .int .i64 x.n, .string x.s, .int .i64 x.h, .int .u64 x.g]
def spC (x : Sp) : Array Value := #[.int .i64 x.d, .int .i64 x.o, .int .i64 x.k, .int .i64 x.a, .int .i64 x.n, .string x.s, .int .i64 x.h, .int .u64 x.g]
/-- The i-th step of a script. -/
theorem idx36n {w : World} {p : Option Addr} {L : List Sp} (h : Sps w p L) {i : Nat} (hi : i < L.length) : ∃ b o x, L[i]? = some x ∧ SpOk x ∧ SpAt w b o x ∧ b < w.heap.size ∧ ∀ c W, (Instr.indexAt 22 (.slice p L.length c) (.int .i64 i)).run Tryd.prog W = .ok (.pointer (some ⟨b, o, none⟩)) W := by
  rcases h.2 with e | ⟨b, o, rfl, hb, hc⟩
  · subst e; simp at hi
  · have hx := List.getElem?_eq_getElem hi
    refine ⟨b, o + i * 8, L[i], hx, h.1 _ (List.getElem_mem _), hc i _ hx, hb, fun c W => ?_⟩
    have hi2 : (i : Int) < L.length := by omega
    simp [go_sem, hi]
set_option maxHeartbeats 1000000 in
/-- More than the statements play. -/
theorem heavy_any (w : World) (p : Option Addr) (L : List Sp) (c : Nat) (h : Sps w p L) :
    Calls Tryd.prog 8 #[.slice p L.length c] w fun e w' => (∃ b : Bool, e = .returned (.bool b) ∧ (L.length ≤ 250 ∨ b = true)) ∧ w' = w := by
  go_enter Tryd.func8, Tryd.ntmps8
  go_wp2
  go_loopw [3, 4] (fun n3 n4 wr => ∃ (i : Nat) (t : Int), n4 = .int .i64 i ∧ n3 = .int .i64 t ∧ i ≤ 500 ∧ i ≤ L.length ∧ wr = w) (fun _ n4 _ => 500 - (valOf n4).toNat)
  case atStart => exact ⟨0, 0, rfl, rfl, by omega, by omega, rfl⟩
  case round =>
    obtain ⟨i, t, rfl, rfl, hi5, hil, hw⟩ := hrel
    rw [hw]; clear hw
    replace h : Hid _ := h
    by_cases h1 : i < L.length
    · have dA : decide ((i : Int) < L.length) = true := by simp; omega
      by_cases h2 : i < 500
      · have dB : decide ((i : Int) < 500) = true := by simp; omega
        obtain ⟨b, o, x, hx, hxo, hxa, hbl, hix⟩ := idx36n h.out h1
        have c5 := hxa.c5
        have hix' := hix c
        have e9 : IntKind.i64.wrap ((i : Int) + 1) = (i : Int) + 1 := IntWalk.i64_in _ (by omega)
        clear hix hxa hxo
        go_wp2
        exact ⟨⟨i + 1, _, by simp, rfl, by omega, by omega, by trivial⟩, by simp [valOf]; omega⟩
      · have dB : decide ((i : Int) < 500) = false := by simp; omega
        have dC : decide ((250 : Int) < L.length) = true := by simp; omega
        go_wp2
        all_goals go_returns
        all_goals simp
    · have dA : decide ((i : Int) < L.length) = false := by simp; omega
      obtain rfl : i = L.length := by omega
      by_cases h3 : 250 < L.length
      · have dC : decide ((250 : Int) < L.length) = true := by simp; omega
        go_wp2
        all_goals go_returns
        all_goals simp
      · have dC : decide ((250 : Int) < L.length) = false := by simp; omega
        have h4 : L.length ≤ 250 := by omega
        cases dD : decide (8192 < t) with
        | true =>
          go_wp2
          all_goals go_returns
          all_goals simp
        | false =>
          go_wp2
          all_goals go_returns
          all_goals simp [h4]
def pkM (A : List HKey) (x : Sp) : HKey := if x.d = 6 ∨ A.length = 0 ∨ x.o < 0 then (x.h, x.g) else (A[(x.o % (A.length : Int)).toNat]?).getD (0, 0)
set_option maxHeartbeats 1000000 in
theorem pick_any (w : World) (C : Nat) (p : Option Addr) (A : List HKey) (c : Nat) (hr : w.ownsRow C 34 2 (.slice p A.length c) A.length (hCells A)) (hl : A.length ≤ 1000) (x : Sp) (hx : SpOk x) :
    Calls Tryd.prog 12 #[.slice p A.length c, spV x] w fun e w' => e = .returned (hdV (pkM A x).1 (pkM A x).2) ∧ Below w.heap.size w w' := by
  unfold spV hdV
  obtain ⟨ho1, ho2⟩ := hx.o
  have hz1 := heap_al (heap_alloc_new w (.cells (spC x) 36)) (.cells #[.int .i64 0, .int .u64 0] 34)
  have hz2 : ((w.alloc (.cells (spC x) 36)).alloc (.cells #[.int .i64 0, .int .u64 0] 34)).heap[w.heap.size + 1]? = some (.cells #[.int .i64 0, .int .u64 0] 34 (0, 0)) := by simpa using heap_alloc_new (w.alloc (.cells (spC x) 36)) (.cells #[.int .i64 0, .int .u64 0] 34)
  have hbe : Below w.heap.size w ((w.alloc (.cells (spC x) 36)).alloc (.cells #[.int .i64 0, .int .u64 0] 34)) := ((Below.refl _ w).alloc (Nat.le_refl _) _).alloc (by simp) _
  have hr2 := (hr.alloc (.cells (spC x) 36)).alloc (.cells #[.int .i64 0, .int .u64 0] 34)
  go_enter Tryd.func12, Tryd.ntmps12
  go_upto_region 1 with fail
  generalize hq : w.heap.size = q at hz1 hz2 hbe ⊢
  generalize hW : (w.alloc (.cells (spC x) 36)).alloc (.cells #[.int .i64 0, .int .u64 0] 34) = W at hz1 hz2 hbe hr2
  simp only [spC] at hW
  simp only [hW]
  have c0 : W.cell? ⟨q, 0, none⟩ = some (.int .i64 x.d) := by rw [cell_of hz1]; rfl
  have c1 : W.cell? ⟨q, 1, none⟩ = some (.int .i64 x.o) := by rw [cell_of hz1]; rfl
  have c6 : W.cell? ⟨q, 6, none⟩ = some (.int .i64 x.h) := by rw [cell_of hz1]; rfl
  have c7 : W.cell? ⟨q, 7, none⟩ = some (.int .u64 x.g) := by rw [cell_of hz1]; rfl
  have f0 := froz_of hz2 0
  have f1 := froz_of hz2 1
  have g0 := cell_of hz2 0
  have g1 := cell_of hz2 1
  simp at g0 g1
  obtain ⟨x0, x1⟩ := put_hd hz2 (.int .i64 x.h) (.int .u64 x.g)
  have hb2 : ∀ u v, Below q w ((W.setCell ⟨q + 1, 0, none⟩ u).setCell ⟨q + 1, 1, none⟩ v) := fun u v => (hbe.setCell (by simp) u).setCell (by simp) v
  have hz3 := hz2
  clear hz1 hz2 hW
  replace hz3 : Hid _ := hz3
  by_cases h6 : x.d = 6
  · rw [h6] at c0
    have hpk : pkM A x = (x.h, x.g) := by simp [pkM, h6]
    go_wp2
    refine bodyPost_ret (by simp [results, Tryd.results12, go_sem, x0, x1]; try rfl) rfl ?_
    first | exact ⟨by rw [hpk], by rw [hq]; exact hb2 _ _⟩ | exact ⟨rfl, hb2 _ _⟩
  have d6 : (x.d == 6) = false := by simp [h6]
  by_cases hA : A.length = 0
  · have dl : ((A.length : Int) == 0) = true := by simp [hA]
    have hpk : pkM A x = (x.h, x.g) := by simp only [pkM]; rw [if_pos (.inr (.inl hA))]
    go_wp2
    refine bodyPost_ret (by simp [results, Tryd.results12, go_sem, x0, x1]; try rfl) rfl ?_
    first | exact ⟨by rw [hpk], by rw [hq]; exact hb2 _ _⟩ | exact ⟨rfl, hb2 _ _⟩
  have dl : ((A.length : Int) == 0) = false := by simp; intro e; exact hA (by rw [e]; rfl)
  by_cases hn : x.o < 0
  · have dn : decide (x.o < 0) = true := by simpa using hn
    have hpk : pkM A x = (x.h, x.g) := by simp only [pkM]; rw [if_pos (.inr (.inr hn))]
    go_wp2
    refine bodyPost_ret (by simp [results, Tryd.results12, go_sem, x0, x1]; try rfl) rfl ?_
    first | exact ⟨by rw [hpk], by rw [hq]; exact hb2 _ _⟩ | exact ⟨rfl, hb2 _ _⟩
  have dn : decide (x.o < 0) = false := by simpa using hn
  have hmod := Int.emod_nonneg x.o (show (A.length : Int) ≠ 0 by omega)
  have hmlt := Int.emod_lt_of_pos x.o (show (0 : Int) < A.length by omega)
  obtain ⟨j, hj, hrm⟩ : ∃ j : Nat, j < A.length ∧ x.o % (A.length : Int) = (j : Int) := ⟨(x.o % (A.length : Int)).toNat, by omega, by omega⟩
  obtain ⟨g, y, hy, hgl, -, hc0, hc1, hai⟩ := idx34 hr2 hj (by omega)
  have hpk : pkM A x = y := by
    simp only [pkM]
    rw [if_neg (by omega), hrm, Int.toNat_natCast, hy]
    rfl
  obtain ⟨ys, yg⟩ := y
  simp only at hc0 hc1
  obtain ⟨x0, x1⟩ : ((W.setCell ⟨q + 1, 0, none⟩ (.int .i64 ys)).setCell ⟨q + 1, 1, none⟩ (.int .u64 yg)).cell? ⟨q + 1, 0, none⟩ = some (.int .i64 ys) ∧ ((W.setCell ⟨q + 1, 0, none⟩ (.int .i64 ys)).setCell ⟨q + 1, 1, none⟩ (.int .u64 yg)).cell? ⟨q + 1, 1, none⟩ = some (.int .u64 yg) := put_hd hz3.out _ _
  rw [← hrm] at hai
  clear hr hr2 hmod hmlt hrm
  go_wp2
  refine bodyPost_ret (by simp [results, Tryd.results12, go_sem, x0, x1]; try rfl) rfl ?_
  first | exact ⟨by rw [hpk], by rw [hq]; exact hb2 _ _⟩ | exact ⟨rfl, hb2 _ _⟩
end Go.Proofs.YtooblonafnlfcaaDoor
