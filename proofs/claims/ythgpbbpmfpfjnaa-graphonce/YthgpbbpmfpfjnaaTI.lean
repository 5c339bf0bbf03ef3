/- Towards the statements of package tree (layer 16): New, At; what a call leaves. -/
import Derived.Test.YthgpbbpmfpfjnaaTH
namespace Go.Proofs.Ythgpbbpmfpfjnaa.T
open Go.ChangeShapes Go.WideShapes Go.ChangeAt Go.RowKit
set_option linter.unusedVariables false
set_option linter.unusedSimpArgs false
set_option maxRecDepth 20000
/-- What a call on a tree leaves. -/
structure Ft [Inhabited FarT] (B : Nat) (w w' : World) : Prop where
  bel : Below B w w'
  keep : ∀ (i : Nat) (cs : Array Value) (t : TypeId), w.heap[i]? = some (.cells cs t (0, 0)) → t ≠ 109 → w'.heap[i]? = some (.cells cs t (0, 0))
  far : ∀ i, FY i → i < w.heap.size → w'.heap[i]? = w.heap[i]?
theorem Ft.of [Inhabited FarT] {B : Nat} {w w' : World} (h : Below w.heap.size w w') (hB : B ≤ w.heap.size) : Ft B w w' := ⟨h.mono hB, fun i cs t e _ => (h.block i (heap_lt e)).trans e, fun i _ hl => h.block i hl⟩
theorem Ft.refl [Inhabited FarT] (B : Nat) (w : World) : Ft B w w := ⟨Below.refl _ _, fun i cs t e _ => e, fun _ _ _ => rfl⟩
theorem Ft.trans [Inhabited FarT] {B : Nat} {w w' w'' : World} (h : Ft B w w') (k : Ft B w' w'') : Ft B w w'' := ⟨h.bel.trans k.bel, fun i cs t e ht => k.keep i cs t (h.keep i cs t e ht) ht, fun i hi hl => (k.far i hi (Nat.lt_of_lt_of_le hl h.bel.size)).trans (h.far i hi hl)⟩
theorem Ft.fd [Inhabited FarT] {B : Nat} {w w' : World} (h : Fd B w w') : Ft B w w' := ⟨h.bel, fun i cs t e ht => h.keep i _ e (fun cs' q => by cases q; exact ht rfl), h.far⟩
theorem turn_block {w w' : World} {m i : Nat} {o : Obj} (h : w.mapTurned w' m) (e : w.heap[i]? = some o) (hn : ∀ es c, o ≠ Obj.map es c) : w'.heap[i]? = some o := by
  obtain ⟨es, c, es', c', hb, rfl⟩ := id h
  refine (h.grown.block i (heap_lt e) ?_).trans e
  simp only [ne_eq, Option.some.injEq]
  rintro rfl
  rw [hb] at e
  cases e
  exact hn _ _ rfl
theorem turn_other {w w' : World} {m i : Nat} (h : w.mapTurned w' m) (hi : i < w.heap.size) (hn : i ≠ m) : w'.heap[i]? = w.heap[i]? := h.grown.block i hi (by simp only [ne_eq, Option.some.injEq]; exact hn)
theorem Ft.turn [Inhabited FarT] {B m : Nat} {w w' : World} (h : w.mapTurned w' m) (hm : B ≤ m) (hy : ¬ FY m) (hB : B ≤ w.heap.size) : Ft B w w' :=
  ⟨(Below.refl B w).grown h.grown hB (fun k e => by cases e; exact hm), fun i cs t e _ => turn_block h e (fun _ _ q => by cases q), fun i hi hl => turn_other h hl (by rintro rfl; exact hy hi)⟩
theorem Ft.drew [Inhabited FarT] {B : Nat} {w w' : World} (h : Ft B w w') : Ft B w w'.drew := ⟨h.bel.drew, h.keep, h.far⟩
theorem Ft.drewN [Inhabited FarT] {B : Nat} {w w' : World} (h : Ft B w w') (n : Nat) : Ft B w (w'.drewN n) := ⟨Below.drewN h.bel n, h.keep, h.far⟩
theorem Ms.turn [Inhabited FarT] {w w' : World} {B m : Nat} {M : MN} (h : Ms w B M) (t : w.mapTurned w' m) : Ms w' B M :=
  fun a x hx => ⟨(h a x hx).1, turn_block t (h.at hx) (fun _ _ q => by cases q)⟩
theorem tnew_any [Inhabited FarT] (w : World) (hY : FT ≤ w.heap.size) : Calls Try.prog 33 #[] w fun e w' => ∃ b m top M, e = .returned (.pointer (some ⟨b, 0, none⟩)) ∧ Tw w' w.heap.size b m top M .nil ∧ Below w.heap.size w w' := by
  have hmm := @run_makeMap Try.prog
  go_enter Try.func33, Try.ntmps33
  go_wp2
  all_goals go_returns
  have s0 : (w.alloc (.map #[] 0)).heap.size = w.heap.size + 1 := by simp
  have hz := heap_alloc_new (w.alloc (.map #[] 0)) (.cells (ndC ⟨(0, 0), none, none, none, 0, 0⟩) 109)
  have hb1 := ((Below.refl _ w).alloc (Nat.le_refl _) (.map #[] 0)).alloc (by simp) (.cells (ndC ⟨(0, 0), none, none, none, 0, 0⟩) 109)
  have hm0 : HM ((w.alloc (.map #[] 0)).alloc (.cells (ndC ⟨(0, 0), none, none, none, 0, 0⟩) 109)) w.heap.size 0 (fun _ => none) := (HM.new w).alloc _
  refine ⟨_, w.heap.size, w.heap.size + 1, fun a => if a = w.heap.size + 1 then some ⟨(0, 0), none, none, none, 0, 0⟩ else none, rfl, ⟨?_, ?_, Nat.le_refl _, ?_, ⟨by simp [Tr.root], trivial⟩, trivial, ⟨0, _, hm0.alloc _, by simp [Tr.rows]⟩, by simp [Tr.adds, Tr.rows], by simp [Tr.keys, Tr.rows], by simp [Tr.size], ?_, fun q => by have := q.lt; omega, by rw [World.size_alloc, World.size_alloc, s0]; omega⟩, ?_⟩
  · have e2 := heap_alloc_new ((w.alloc (.map #[] 0)).alloc (.cells (ndC ⟨(0, 0), none, none, none, 0, 0⟩) 109)) (.cells #[.map (some w.heap.size), .pointer (some ⟨w.heap.size + 1, 0, none⟩)] 111)
    simp only [World.size_alloc] at e2
    exact e2
  · omega
  · intro a x hx
    simp only at hx
    split at hx
    · rename_i e
      cases hx
      subst e
      refine ⟨⟨by omega, fun q => by have := q.lt; omega⟩, heap_al ?_ _⟩
      rw [← s0]
      exact hz
    · cases hx
  · intro q; have := q.lt; omega
  · exact hb1.alloc hb1.size _
/-- A handle at a place. -/
theorem tat_yes [Inhabited FarT] (w : World) (B b m top : Nat) (M : MN) (T : Tr) (h : Tw w B b m top M T) (i : Nat) (hi : i < T.size) :
    Calls Try.prog 94 #[.pointer (some ⟨b, 0, none⟩), .int .i64 i] w fun e w' => ∃ a k, T.rows[i]? = some (a, k) ∧ e = .returned (.tuple #[.agg #[.int .i64 k.1, .int .u64 k.2], .bool true]) ∧ Below w.heap.size w w' := by
  have hb1 := (Below.refl _ w).alloc (Nat.le_refl _) (.cells #[.int .i64 0, .int .u64 0] 31)
  have h1 := h.keep hb1
  have yz := heap_alloc_new w (.cells #[.int .i64 0, .int .u64 0] 31)
  have hlen := h.len
  have d1 : decide ((i : Int) < 0) = false := by simp
  have d2 : decide ((T.size : Int) ≤ (i : Int)) = false := decide_eq_false (by omega)
  go_enter Try.func94, Try.ntmps94
  go_upto_region 1 with fail
  generalize w.alloc (.cells #[.int .i64 0, .int .u64 0] 31) = W at h1 hb1 yz ⊢
  have k1 := len_any W B b m top M T h1
  have k2 := first_any W B b m top M T h1
  have k3 := nat_any W B M h1.ms (some top) T h1.wh.sub i hi (by omega)
  generalize pO T.root = v at k2 k3
  have f0 := froz_of yz 0
  have f1 := froz_of yz 1
  have y0 := cell_of yz 0
  have y1 := cell_of yz 1
  simp at y0 y1
  have hall := fun a k (q : (a, k) ∈ T.rows) => h1.wh.sub.all a k q
  have hms := h1.ms
  clear h h1
  go_wp2_with (first
    | (go_at_call 97; refine k1.mono ?_; rintro e w' ⟨rfl, hw⟩; rw [hw]; clear hw)
    | (go_at_call 99; refine k2.mono ?_; rintro e w' ⟨rfl, hw⟩; rw [hw]; clear hw)
    | (go_at_call 101; go_loud (refine k3.mono ?_; rintro e w' ⟨a, k, rfl, hrow, hw⟩; rw [hw]; clear hw; obtain ⟨x, hx, hxk⟩ := hall a k (List.mem_of_getElem? hrow); have c0 := hms.c0 hx; have c1 := hms.c1 hx; rw [hxk] at c0 c1)))
  obtain ⟨s0, s1, s2, s3⟩ := put2 yz (.int .i64 k.1) (.int .u64 k.2)
  refine bodyPost_ret (by simp [results, Try.results94, go_sem, s0, s1, s2, s3]; try rfl) rfl ?_
  exact ⟨a, k, hrow, rfl, (hb1.setCell (Nat.le_refl _) _).setCell (Nat.le_refl _) _⟩
theorem tat_no [Inhabited FarT] (w : World) (B b m top : Nat) (M : MN) (T : Tr) (h : Tw w B b m top M T) (i : Int) (hi : i < 0 ∨ (T.size : Int) ≤ i) :
    Calls Try.prog 94 #[.pointer (some ⟨b, 0, none⟩), .int .i64 i] w fun e w' => e = .returned (.tuple #[.agg #[.int .i64 0, .int .u64 0], .bool false]) ∧ Below w.heap.size w w' := by
  have hb1 := (Below.refl _ w).alloc (Nat.le_refl _) (.cells #[.int .i64 0, .int .u64 0] 31)
  have h1 := h.keep hb1
  have yz := heap_alloc_new w (.cells #[.int .i64 0, .int .u64 0] 31)
  go_enter Try.func94, Try.ntmps94
  go_upto_region 1 with fail
  generalize w.alloc (.cells #[.int .i64 0, .int .u64 0] 31) = W at h1 hb1 yz ⊢
  have k1 := len_any W B b m top M T h1
  have f0 := froz_of yz 0
  have f1 := froz_of yz 1
  have y0 := cell_of yz 0
  have y1 := cell_of yz 1
  simp at y0 y1
  obtain ⟨s0, s1, s2, s3⟩ := put2 yz (.int .i64 0) (.int .u64 0)
  by_cases h0 : i < 0
  · have d1 : decide (i < 0) = true := by simpa using h0
    go_wp2
    refine bodyPost_ret (by simp [results, Try.results94, go_sem, s0, s1, s2, s3]; try rfl) rfl ?_
    exact ⟨rfl, (hb1.setCell (Nat.le_refl _) _).setCell (Nat.le_refl _) _⟩
  · have d1 : decide (i < 0) = false := by simpa using h0
    have d2 : decide ((T.size : Int) ≤ i) = true := decide_eq_true (by omega)
    go_wp2_with (go_at_call 97; refine k1.mono ?_; rintro e w' ⟨rfl, hw⟩; rw [hw]; clear hw)
    refine bodyPost_ret (by simp [results, Try.results94, go_sem, s0, s1, s2, s3]; try rfl) rfl ?_
    exact ⟨rfl, (hb1.setCell (Nat.le_refl _) _).setCell (Nat.le_refl _) _⟩
theorem tat_nil (i : Int) (w : World) : Calls Try.prog 94 #[.pointer none, .int .i64 i] w fun e w' => e = .returned (.tuple #[.agg #[.int .i64 0, .int .u64 0], .bool false]) ∧ Below w.heap.size w w' := by
  have hb1 := (Below.refl _ w).alloc (Nat.le_refl _) (.cells #[.int .i64 0, .int .u64 0] 31)
  have yz := heap_alloc_new w (.cells #[.int .i64 0, .int .u64 0] 31)
  go_enter Try.func94, Try.ntmps94
  go_upto_region 1 with fail
  generalize w.alloc (.cells #[.int .i64 0, .int .u64 0] 31) = W at hb1 yz ⊢
  have k1 := len_nil W
  have f0 := froz_of yz 0
  have f1 := froz_of yz 1
  have y0 := cell_of yz 0
  have y1 := cell_of yz 1
  simp at y0 y1
  obtain ⟨s0, s1, s2, s3⟩ := put2 yz (.int .i64 0) (.int .u64 0)
  by_cases h0 : i < 0
  · have d1 : decide (i < 0) = true := by simpa using h0
    go_wp2
    refine bodyPost_ret (by simp [results, Try.results94, go_sem, s0, s1, s2, s3]; try rfl) rfl ?_
    exact ⟨rfl, (hb1.setCell (Nat.le_refl _) _).setCell (Nat.le_refl _) _⟩
  · have d1 : decide (i < 0) = false := by simpa using h0
    have d2 : decide (0 ≤ i) = true := decide_eq_true (by omega)
    go_wp2_with (go_at_call 97; refine k1.mono ?_; rintro e w' ⟨rfl, hw⟩; rw [hw]; clear hw)
    refine bodyPost_ret (by simp [results, Try.results94, go_sem, s0, s1, s2, s3]; try rfl) rfl ?_
    exact ⟨rfl, (hb1.setCell (Nat.le_refl _) _).setCell (Nat.le_refl _) _⟩
end Go.Proofs.Ythgpbbpmfpfjnaa.T
