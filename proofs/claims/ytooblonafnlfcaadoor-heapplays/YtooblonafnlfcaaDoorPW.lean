/- Towards the statements of package heap (layer 14): the document's example. -/
import Derived.Test.YtooblonafnlfcaaDoorPG
namespace Go.Proofs.YtooblonafnlfcaaDoor
open Go.ChangeShapes Go.WideShapes Go.ChangeAt Go.RowKit
set_option linter.unusedVariables false
set_option linter.unusedSimpArgs false
set_option maxRecDepth 20000
theorem first0 {M : MJ} {k : Nat} (h1 : M 0 = none) (h2 : ∀ j, j < k → (M j).isSome = true) : k = 0 := by
  by_cases e : k = 0
  · exact e
  · have := h2 0 (by omega)
    rw [h1] at this
    cases this
theorem Fq.cell {Yo : Nat → Prop} {B : Nat} {q : HQ} {w w' : World} (h : Fq Yo B q w w') {z : Nat} {cs : Array Value} (hz : w.heap[z]? = some (.cells cs 34 (0, 0))) (h1 : z ≠ q.s) (h2 : z ≠ q.m1) (h3 : z ≠ q.m2) (h4 : z ≠ q.m3) : w'.heap[z]? = some (.cells cs 34 (0, 0)) :=
  h.keep z _ h1 h2 h3 h4 hz (by intro cs z e; cases e) (by intro cs z e; cases e) (by intro cs z e; cases e)
/-- A block of handles that is there is none of the heap's. -/
theorem Hp.not34 {Yo : Nat → Prop} {w : World} {B : Nat} {q : HQ} {room used : Int} {N : Int → Nat} {M : MJ} {ns : Nat} {A K : Nat → Nat} {n : Nat} (h : Hp Yo w B q room used N M ns A K n) {z : Nat} {cs : Array Value} {x : Nat × Nat} (hz : w.heap[z]? = some (.cells cs 34 x)) : z ≠ q.s ∧ z ≠ q.m1 ∧ z ≠ q.m2 ∧ z ≠ q.m3 := by
  obtain ⟨ds, hds⟩ := h.sl.cellsS
  obtain ⟨F, hF1, _⟩ := h.tb.im1
  refine ⟨?_, ?_, ?_, ?_⟩
  · rintro rfl; rw [hz] at hds; cases hds
  · rintro rfl; exact hF1.notc hz
  · rintro rfl; exact h.tb.im2.notc hz
  · rintro rfl; exact h.ow.im.notc hz
theorem Fq.at34 {Yo : Nat → Prop} {B : Nat} {q : HQ} {w w' : World} {room used : Int} {N : Int → Nat} {M : MJ} {ns : Nat} {A K : Nat → Nat} {n : Nat} (h : Fq Yo B q w w') (hp : Hp Yo w B q room used N M ns A K n) {z : Nat} {cs : Array Value} (hz : w.heap[z]? = some (.cells cs 34 (0, 0))) : w'.heap[z]? = some (.cells cs 34 (0, 0)) := by
  obtain ⟨a, b, c, d⟩ := hp.not34 hz
  exact h.keep z _ a b c d hz (by intro cs z e; cases e) (by intro cs z e; cases e) (by intro cs z e; cases e)
set_option maxHeartbeats 1000000 in
theorem hworks_any (w : World) (hT : Tab w) (h0 : 0 < w.heap.size) : Calls Tryd.prog 9 #[] w fun e w' => e = .returned (.bool true) ∧ Below w.heap.size w w' := by
  have k1 := hnew_any (Yo := fun _ => False) 16 (by omega) w (by simp)
  generalize hB0 : w.heap.size = B at k1 h0
  go_enter Tryd.func9, Tryd.ntmps9
  go_upto_region 4 with (go_at_call 10; refine k1.mono ?_; rintro e w1 ⟨q, rfl, hH1, hb1⟩)
  have T1 := hT.gr h0 hb1
  have k2 := hmake_ok w1 _ _ _ _ _ _ _ _ _ _ hH1 T1 h0 7 16 (by omega) (by decide) (by omega)
  clear k1
  go_upto_region 5 with (go_at_call 13; refine k2.mono ?_; unfold H.hdV; rintro e w2 ⟨k, rfl, hk1, hk2, ⟨ns2, A2, K2, hH2⟩, hF2⟩)
  obtain rfl := first0 rfl hk2
  have za := heap_alloc_new w2 (.cells #[.int .i64 0, .int .u64 1] 34)
  have hH3 := (hH2.kept ((Below.refl _ w2).alloc (Nat.le_refl _) (.cells #[.int .i64 0, .int .u64 1] 34))).more (show 0 + 1 ≤ 10 by omega) (by omega)
  have hb3 : Below B w (w2.alloc (.cells #[.int .i64 0, .int .u64 1] 34)) := (hb1.trans hF2.bel).alloc hH2.size _
  clear k2 hk1 hk2
  generalize w2.alloc (.cells #[.int .i64 0, .int .u64 1] 34) = w3 at za hH3 hb3 ⊢
  generalize w2.heap.size = za' at za ⊢
  have a0 : w3.cell? ⟨za', 0, none⟩ = some (.int .i64 0) := by rw [cell_of za]; rfl
  have a1 : w3.cell? ⟨za', 1, none⟩ = some (.int .u64 1) := by rw [cell_of za]; rfl
  have k3 := hold_ok w3 _ _ _ _ _ _ _ _ _ _ hH3 0 ⟨1, 1, 7, List.replicate 16 0⟩ (updM_self _ _ _) (by simp)
  go_upto_region 6 with (go_at_call 23; refine k3.mono ?_; rintro e w4 ⟨rfl, hH4, hF4⟩)
  have za4 := hF4.at34 hH3 za
  have hb4 := hb3.trans hF4.bel
  clear a0 a1 k3
  have a0 : w4.cell? ⟨za', 0, none⟩ = some (.int .i64 0) := by rw [cell_of za4]; rfl
  have a1 : w4.cell? ⟨za', 1, none⟩ = some (.int .u64 1) := by rw [cell_of za4]; rfl
  have k4 := free_held w4 _ _ _ _ _ _ _ _ _ _ hH4 0 _ (updM_self _ _ _) (by decide)
  go_upto_region 7 with (go_at_call 25; refine k4.mono ?_; rintro e w5 ⟨rfl, hb5⟩)
  have hH5 := hH4.kept hb5
  have za5 := (hb5.block _ (heap_lt za4)).trans za4
  have hb6 := hb4.trans (hb5.mono hH4.size)
  clear a0 a1 k4
  have a0 : w5.cell? ⟨za', 0, none⟩ = some (.int .i64 0) := by rw [cell_of za5]; rfl
  have a1 : w5.cell? ⟨za', 1, none⟩ = some (.int .u64 1) := by rw [cell_of za5]; rfl
  have k5 := hdrop_ok w5 _ _ _ _ _ _ _ _ _ _ hH5 0 _ (updM_self _ _ _) (by decide)
  go_upto_region 8 with (go_at_call 24; refine k5.mono ?_; rintro e w6 ⟨rfl, hH6, hF6⟩)
  have za6 := hF6.at34 hH5 za5
  have hb7 := hb6.trans hF6.bel
  clear a0 a1 k5
  have a0 : w6.cell? ⟨za', 0, none⟩ = some (.int .i64 0) := by rw [cell_of za6]; rfl
  have a1 : w6.cell? ⟨za', 1, none⟩ = some (.int .u64 1) := by rw [cell_of za6]; rfl
  have k6 := hdrop_ok w6 _ _ _ _ _ _ _ _ _ _ hH6 0 _ (updM_self _ _ _) (by decide)
  go_upto_region 9 with (go_at_call 24; refine k6.mono ?_; rintro e w7 ⟨rfl, hH7, hF7⟩)
  have za7 := hF7.at34 hH6 za6
  have hb8 := hb7.trans hF7.bel
  have T7 := hT.gr h0 hb8
  clear a0 a1 k6
  have a0 : w7.cell? ⟨za', 0, none⟩ = some (.int .i64 0) := by rw [cell_of za7]; rfl
  have a1 : w7.cell? ⟨za', 1, none⟩ = some (.int .u64 1) := by rw [cell_of za7]; rfl
  have k7 := free_ok w7 _ _ _ _ _ _ _ _ _ _ hH7 T7 h0 0 _ (updM_self _ _ _) rfl
  go_upto_region 10 with (go_at_call 25; refine k7.mono ?_; rintro e w8 ⟨rfl, hH8, hF8⟩)
  have za8 := hF8.at34 hH7 za7
  have hb9 := hb8.trans hF8.bel
  have T8 := hT.gr h0 hb9
  have k8 := hmake_ok w8 _ _ _ _ _ _ _ _ _ _ hH8 T8 h0 8 16 (by omega) (by decide) (by omega)
  have k8' : Calls Tryd.prog 13 #[.pointer (some ⟨q.b, 0, none⟩), .int .i64 8, .int .i64 ((16 : Nat) : Int)] w8 fun e w' => e = .returned (.tuple #[.agg #[.int .i64 0, .int .u64 2], .int .i64 0]) ∧ ∃ u N M ns A K, Hp (fun _ => False) w' B q 16 u N M ns A K 11 ∧ M 0 = some ⟨2, 1, 8, List.replicate 16 0⟩ ∧ Fq (fun _ => False) B q w8 w' :=
    k8.mono fun e w' ⟨k, he, hk1, hk2, ⟨ns, A, K, hx⟩, hF⟩ => by
      obtain rfl := first0 (updM_self _ _ _) hk2
      exact ⟨he, _, _, _, _, _, _, hx, updM_self _ _ _, hF⟩
  clear a0 a1 k7 k8
  go_upto_region 11 with (go_at_call 13; refine k8'.mono ?_; rintro e w9 ⟨rfl, u9, N9, M9, ns9, A9, K9, hH9, hM9, hF9⟩)
  have za9 := hF9.at34 hH8 za8
  have zb := heap_alloc_new w9 (.cells #[.int .i64 0, .int .u64 2] 34)
  have za10 := heap_al za9 (.cells #[.int .i64 0, .int .u64 2] 34)
  have hH10 := hH9.kept ((Below.refl _ w9).alloc (Nat.le_refl _) (.cells #[.int .i64 0, .int .u64 2] 34))
  have hb10 : Below B w (w9.alloc (.cells #[.int .i64 0, .int .u64 2] 34)) := (hb9.trans hF9.bel).alloc hH9.size _
  clear k8'
  generalize w9.alloc (.cells #[.int .i64 0, .int .u64 2] 34) = w10 at zb za10 hH10 hb10 ⊢
  generalize w9.heap.size = zb' at zb ⊢
  have b0 : w10.cell? ⟨zb', 0, none⟩ = some (.int .i64 0) := by rw [cell_of zb]; rfl
  have b1 : w10.cell? ⟨zb', 1, none⟩ = some (.int .u64 2) := by rw [cell_of zb]; rfl
  have k9 := kind_any w10 _ _ _ _ _ _ _ _ _ _ hH10 0 2
  rw [show kdM M9 0 2 = 8 by simp [kdM, liveB, lOf, getM, hM9], show liveB M9 0 2 = true by simp [liveB, lOf, getM, hM9]] at k9
  go_upto_region 12 with (go_at_call 17; refine k9.mono ?_; rintro e w11 ⟨rfl, hb11⟩)
  have za11 := (hb11.block _ (heap_lt za10)).trans za10
  have zb11 := (hb11.block _ (heap_lt zb)).trans zb
  clear b0 b1 k9
  have a0 := cell_of za11 0
  have a1 := cell_of za11 1
  have b0 := cell_of zb11 0
  have b1 := cell_of zb11 1
  simp at a0 a1 b0 b1
  have q1 := fun W => H.eqlH 0 0 1 1 W
  have q2 := fun W => H.eqlH 0 0 2 2 W
  simp only [beq_self_eq_true, Bool.and_self] at q1 q2
  go_wp2
  all_goals go_returns
  all_goals exact ⟨rfl, hb10.trans (hb11.mono hH10.size)⟩
end Go.Proofs.YtooblonafnlfcaaDoor
