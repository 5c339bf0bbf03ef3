/- Towards the statements of package list (layer 15): calls of a list by what it holds; Pop. -/
import Derived.Test.YtefhcdnilbojkaaLF
namespace Go.Proofs.Ytefhcdnilbojkaa
open Go.ChangeShapes Go.WideShapes Go.ChangeAt Go.RowKit
set_option linter.unusedVariables false
set_option linter.unusedSimpArgs false
set_option maxRecDepth 20000
/-- The first one, or the last. -/
def endM (K : List HKey) (q : Bool) : Option HKey := if q then K.head? else K.getLast?
/-- A handle, or none, as a value. -/
def oV : Option HKey → Value
  | some y => .agg #[.int .i64 y.1, .int .u64 y.2]
  | none => .agg #[.int .i64 0, .int .u64 0]
def popM (K : List HKey) (q : Bool) : List HKey := match endM K q with
  | some k => K.erase k
  | none => K
def nextM (K : List HKey) (k : HKey) : Option HKey := K[K.idxOf k + 1]?
theorem Ls.ends {w : World} {B b m e : Nat} {nx pv : Nat → Nat} {ky : Nat → HKey} {N : List Nat} (h : Ls w B b m e nx pv ky N) (q : Bool) : (N = [] ∧ endM (N.map ky) q = none) ∨ ∃ x ∈ N, (if q then nx e else pv e) = x ∧ endM (N.map ky) q = some (ky x) := by
  cases hN : N with
  | nil => exact .inl ⟨rfl, by cases q <;> rfl⟩
  | cons a l =>
    right
    have hr := h.ring
    cases q with
    | true =>
      rw [hN] at hr
      exact ⟨a, by simp, by simpa using hr.1, by simp [endM]⟩
    | false =>
      have h1 := hr.back N.length e (by simp)
      rw [hN] at h1
      have h2 : (a :: l)[l.length]? = some (pv e) := by simpa using h1
      refine ⟨pv e, List.mem_of_getElem? h2, rfl, ?_⟩
      rw [endM, if_neg (by simp), List.getLast?_eq_getElem?, List.length_map, List.getElem?_map, List.length_cons, Nat.add_sub_cancel, h2]
      rfl
theorem peek_any (w : World) (B b m e : Nat) (nx pv : Nat → Nat) (ky : Nat → HKey) (N : List Nat) (h : Ls w B b m e nx pv ky N) (q : Bool) :
    Calls Try.prog 16 #[.pointer (some ⟨b, 0, none⟩), .bool q] w fun e' w' => e' = .returned (.tuple #[oV (endM (N.map ky) q), .bool (endM (N.map ky) q).isSome]) ∧ Below w.heap.size w w' := by
  rcases h.ends q with ⟨rfl, e1⟩ | ⟨x, hx, hq, e1⟩
  · rw [e1]
    exact peek_none w B b m e nx pv ky h q
  · rw [e1]
    exact peek_some w B b m e nx pv ky N h q x hx hq
theorem pop_nil (q : Bool) (w : World) : Calls Try.prog 21 #[.pointer none, .bool q] w fun e w' => e = .returned (.tuple #[.agg #[.int .i64 0, .int .u64 0], .bool false]) ∧ Below w.heap.size w w' := by
  have hb1 := (Below.refl _ w).alloc (Nat.le_refl _) (.cells #[.int .i64 0, .int .u64 0] 32)
  have y1 := heap_alloc_new w (.cells #[.int .i64 0, .int .u64 0] 32)
  have k1 := peek_nil q (w.alloc (.cells #[.int .i64 0, .int .u64 0] 32))
  go_enter Try.func21, Try.ntmps21
  go_upto_region 2 with (go_at_call 16; refine k1.mono ?_; rintro e w1 ⟨rfl, hb2⟩)
  have y2 := heap_al ((hb2.block _ (by simp)).trans y1) (.cells #[.int .i64 0, .int .u64 0] 32)
  have x2 := heap_alloc_new w1 (.cells #[.int .i64 0, .int .u64 0] 32)
  have hbw : Below w.heap.size w (w1.alloc (.cells #[.int .i64 0, .int .u64 0] 32)) := (hb1.trans (hb2.mono hb1.size)).alloc (by have := hb1.size; have := hb2.size; omega) _
  clear k1 hb2 hb1 y1
  generalize w1.alloc (.cells #[.int .i64 0, .int .u64 0] 32) = W at y2 x2 hbw ⊢
  generalize w1.heap.size = z at x2 ⊢
  obtain ⟨s0, s1, s2, s3⟩ := put2 y2 (.int .i64 0) (.int .u64 0)
  have f0 := froz_of y2 0
  have f1 := froz_of y2 1
  have z0 := cell_of y2 0
  have z1 := cell_of y2 1
  have t0 := cell_of x2 0
  have t1 := cell_of x2 1
  simp at z0 z1 t0 t1
  go_wp2
  refine bodyPost_ret (by simp [results, Try.results21, go_sem, s0, s1, s2, s3]; try rfl) rfl ?_
  exact ⟨rfl, (hbw.setCell (Nat.le_refl _) _).setCell (Nat.le_refl _) _⟩
set_option maxHeartbeats 1000000 in
theorem pop_any (w : World) (B b m e : Nat) (nx pv : Nat → Nat) (ky : Nat → HKey) (N : List Nat) (hL : Ls w B b m e nx pv ky N) (q : Bool) :
    Calls Try.prog 21 #[.pointer (some ⟨b, 0, none⟩), .bool q] w fun e' w' => e' = .returned (.tuple #[oV (endM (N.map ky) q), .bool (endM (N.map ky) q).isSome]) ∧ ∃ S', Li w' B b (popM (N.map ky) q) S' ∧ FL B (b :: m :: e :: N) S' w w' := by
  have hb1 := (Below.refl _ w).alloc (Nat.le_refl _) (.cells #[.int .i64 0, .int .u64 0] 32)
  have h1 := hL.bel hb1
  have y1 := heap_alloc_new w (.cells #[.int .i64 0, .int .u64 0] 32)
  have k1 := peek_any _ B b m e nx pv ky N h1 q
  unfold popM
  cases eo : endM (N.map ky) q with
  | none =>
    rw [eo] at k1
    simp only [oV, Option.isSome_none] at k1
    go_enter Try.func21, Try.ntmps21
    go_upto_region 2 with (go_at_call 16; refine k1.mono ?_; rintro e w1 ⟨rfl, hb2⟩)
    have y2 := heap_al ((hb2.block _ (by simp)).trans y1) (.cells #[.int .i64 0, .int .u64 0] 32)
    have x2 := heap_alloc_new w1 (.cells #[.int .i64 0, .int .u64 0] 32)
    have hbw : Below w.heap.size w (w1.alloc (.cells #[.int .i64 0, .int .u64 0] 32)) := (hb1.trans (hb2.mono hb1.size)).alloc (by have := hb1.size; have := hb2.size; omega) _
    clear k1 hb2 hb1 y1
    generalize w1.alloc (.cells #[.int .i64 0, .int .u64 0] 32) = W at y2 x2 hbw ⊢
    generalize w1.heap.size = z at x2 ⊢
    obtain ⟨s0, s1, s2, s3⟩ := put2 y2 (.int .i64 0) (.int .u64 0)
    have f0 := froz_of y2 0
    have f1 := froz_of y2 1
    have z0 := cell_of y2 0
    have z1 := cell_of y2 1
    have t0 := cell_of x2 0
    have t1 := cell_of x2 1
    simp at z0 z1 t0 t1
    have hb3 : Below w.heap.size w ((W.setCell ⟨w.heap.size, 0, none⟩ (.int .i64 0)).setCell ⟨w.heap.size, 1, none⟩ (.int .u64 0)) := (hbw.setCell (Nat.le_refl _) _).setCell (Nat.le_refl _) _
    go_wp2
    refine bodyPost_ret (by simp [results, Try.results21, go_sem, s0, s1, s2, s3]; try rfl) rfl ?_
    exact ⟨rfl, b :: m :: e :: N, ⟨m, e, nx, pv, ky, N, rfl, rfl, hL.bel hb3⟩, hb3.mono hL.size, fun k hk _ => hb3.block k hk, fun x hx => .inl hx⟩
  | some k =>
    rw [eo] at k1
    simp only [oV, Option.isSome_some] at k1
    go_enter Try.func21, Try.ntmps21
    go_upto_region 2 with (go_at_call 16; refine k1.mono ?_; rintro e w1 ⟨rfl, hb2⟩)
    have y2 := heap_al ((hb2.block _ (by simp)).trans y1) (.cells #[.int .i64 k.1, .int .u64 k.2] 32)
    have x2 := heap_alloc_new w1 (.cells #[.int .i64 k.1, .int .u64 k.2] 32)
    have hz : w.heap.size < w1.heap.size := by have := hb1.size; have := hb2.size; simp at this; omega
    have hbw : Below w.heap.size w (w1.alloc (.cells #[.int .i64 k.1, .int .u64 k.2] 32)) := (hb1.trans (hb2.mono hb1.size)).alloc (by omega) _
    have hzz : w1.heap.size < (w1.alloc (.cells #[.int .i64 k.1, .int .u64 k.2] 32)).heap.size := by simp
    clear k1 hb2 hb1 y1
    generalize w1.alloc (.cells #[.int .i64 k.1, .int .u64 k.2] 32) = W at y2 x2 hbw hzz ⊢
    generalize w1.heap.size = z at x2 hz hzz ⊢
    have h2 := hL.bel hbw
    have k2 := remove_any W B b m e nx pv ky N h2 k
    have hlt := hL.lt
    have t0 := cell_of x2 0
    have t1 := cell_of x2 1
    simp at t0 t1
    go_upto_region 4 with (go_at_call 23; refine k2.mono ?_; rintro e1 W2 ⟨rfl, S', hLi, hF⟩)
    have y3 := (hF.keep _ (heap_lt y2) (fun q => by have := hlt _ q; omega)).trans y2
    have x3 := (hF.keep _ (heap_lt x2) (fun q => by have := hlt _ q; omega)).trans x2
    clear k2 t0 t1
    obtain ⟨s0, s1, s2, s3⟩ := put2 y3 (.int .i64 k.1) (.int .u64 k.2)
    have f0 := froz_of y3 0
    have f1 := froz_of y3 1
    have z0 := cell_of y3 0
    have z1 := cell_of y3 1
    have t0 := cell_of x3 0
    have t1 := cell_of x3 1
    simp at z0 z1 t0 t1
    have hk : ∀ i, i ≠ w.heap.size → ((W2.setCell ⟨w.heap.size, 0, none⟩ (.int .i64 k.1)).setCell ⟨w.heap.size, 1, none⟩ (.int .u64 k.2)).heap[i]? = W2.heap[i]? := fun i hi => by
      rw [Below.heap_setCell _ _ _ _ (by simpa using hi), Below.heap_setCell _ _ _ _ (by simpa using hi)]
    go_wp2
    refine bodyPost_ret (by simp [results, Try.results21, go_sem, s0, s1, s2, s3]; try rfl) rfl ?_
    have hnS : w.heap.size ∉ S' := fun q => by
      rcases hF.new _ q with r | r
      · have := hlt _ r; omega
      · have := heap_lt y2; omega
    obtain ⟨m', e', nx', pv', ky', N', hS', hK', hLs⟩ := hLi
    refine ⟨rfl, S', ⟨m', e', nx', pv', ky', N', hS', hK', hLs.below fun i hi => hk i (fun q => hnS (by rw [hS', ← q]; exact hi))⟩, ?_, ?_, ?_⟩
    · exact (((hbw.mono hL.size).trans hF.bel).setCell hL.size _).setCell hL.size _
    · intro i hi hni
      exact (hk i (by omega)).trans ((hF.keep i (by have := hbw.size; omega) hni).trans (hbw.block i hi))
    · intro y hy
      rcases hF.new y hy with r | r
      · exact .inl r
      · right; have := hbw.size; omega
end Go.Proofs.Ytefhcdnilbojkaa
