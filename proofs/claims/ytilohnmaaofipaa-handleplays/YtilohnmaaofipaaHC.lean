/- Towards the statements of package handle (layer 13): Drop; the document's example. -/
import Derived.Test.YtilohnmaaofipaaHB
namespace Go.Proofs.Ytilohnmaaofipaa
open Go.ChangeShapes Go.WideShapes Go.ChangeAt Go.RowKit
set_option linter.unusedVariables false
set_option linter.unusedSimpArgs false
set_option maxRecDepth 20000
theorem drop_stale (w : World) (B b m1 m2 : Nat) (N : Int → Nat) (L : Int → Option Nat) (n : Nat) (h : Tb w B b m1 m2 N L n) (s : Int) (g : Nat) (hL : (L s == some g) = false) :
    Calls Try.prog 9 #[.pointer (some ⟨b, 0, none⟩), .agg #[.int .i64 s, .int .u64 g]] w fun e w' => e = .returned (.int .i64 130) ∧ Below w.heap.size w w' := by
  have hT1 := h.below ((Below.refl _ w).alloc (Nat.le_refl _) (.cells #[.int .i64 s, .int .u64 g] 34))
  have hc := h.cells
  have c1 : w.cell? ⟨b, 1, none⟩ = some (.map (some m2)) := by rw [cell_of hc]; rfl
  have k1 := made_yes (w.alloc (.cells #[.int .i64 s, .int .u64 g] 34)) b m2 (cell_al c1 _)
  have k2 := lives_any _ B b m1 m2 N L n hT1 s g
  rw [hL] at k2
  go_enter Try.func9, Try.ntmps9
  go_wp2_with (first | (go_at_call 18; refine k1.mono ?_; rintro e w' ⟨rfl, hw⟩; rw [hw]; clear hw) | (go_at_call 16; refine k2.mono ?_; rintro e w1 ⟨rfl, hB⟩))
  all_goals go_returns
  all_goals exact ⟨rfl, ((Below.refl _ w).alloc (Nat.le_refl _) _).trans (hB.mono (by simp))⟩
set_option maxHeartbeats 1000000 in
theorem drop_ok (w : World) (B b m1 m2 : Nat) (N : Int → Nat) (L : Int → Option Nat) (n : Nat) (h : Tb w B b m1 m2 N L n) (s : Int) (g : Nat) (hL : L s = some g) :
    Calls Try.prog 9 #[.pointer (some ⟨b, 0, none⟩), .agg #[.int .i64 s, .int .u64 g]] w fun e w' => e = .returned (.int .i64 0) ∧ Tb w' B b m1 m2 N (updL L s none) n ∧ Fh B m1 m2 w w' := by
  have hBw := h.size
  have hT1 := h.below ((Below.refl _ w).alloc (Nat.le_refl _) (.cells #[.int .i64 s, .int .u64 g] 34))
  have hc := h.cells
  have c1 : w.cell? ⟨b, 1, none⟩ = some (.map (some m2)) := by rw [cell_of hc]; rfl
  have k1 := made_yes (w.alloc (.cells #[.int .i64 s, .int .u64 g] 34)) b m2 (cell_al c1 _)
  have k2 := lives_any _ B b m1 m2 N L n hT1 s g
  rw [show (L s == some g) = true by simp [hL]] at k2
  go_enter Try.func9, Try.ntmps9
  go_upto_region 5 with (first | (go_at_call 18; refine k1.mono ?_; rintro e w' ⟨rfl, hw⟩; rw [hw]; clear hw) | (go_at_call 16; refine k2.mono ?_; rintro e w1 ⟨rfl, hB⟩))
  have hW : Below w.heap.size w w1 := ((Below.refl _ w).alloc (Nat.le_refl _) _).trans (hB.mono (by simp))
  have y0 : w1.cell? ⟨w.heap.size, 0, none⟩ = some (.int .i64 s) := (hB.cell (by simp)).trans (by simp)
  have hT := h.below hW
  have hc1 := hT.cells
  have d1 : w1.cell? ⟨b, 1, none⟩ = some (.map (some m2)) := by rw [cell_of hc1]; rfl
  clear k1 k2 hB c1
  obtain ⟨W2, p2, i2, t2⟩ := IM.del (w := w1.drew) Try.underlying50 Try.underlying3 (hT.im2.keep rfl) s 0
  obtain ⟨nb1, nb2, lm1, lm2⟩ := hT.nm
  obtain ⟨F, hF1, hF2⟩ := hT.im1
  go_region
  go_wp2
  all_goals go_returns
  have hF4 : Fh B m1 m2 w1.drew W2 := Fh.turn t2 (.inr rfl) hT.b2 hT.size
  refine ⟨rfl, ⟨(hF4.keep _ (heap_lt hc1) nb1 nb2).trans hc1, hT.bB, hT.b1, hT.b2, hT.ne, hT.nb, ⟨F, hF1.keep (t2.grown.block _ lm1 (by simp; exact hT.ne)), hF2⟩, ?_, hT.bd, fun k g' hg => ?_⟩, (Fh.of hW hBw).drew.trans hF4⟩
  · have : (fun k => (updL L s none k).map (hdV k)) = updF (fun k => (L k).map (hdV k)) s none := by
      funext k
      by_cases e : k = s
      · subst e; simp [updF, updL]
      · simp only [updF, updL, if_neg e]
    rw [this]
    exact i2
  · by_cases e : k = s
    · subst e; simp [updL] at hg
    · simp only [updL, if_neg e] at hg
      exact hT.gen k g' hg
theorem Fh.at {B m1 m2 : Nat} {w w' : World} (h : Fh B m1 m2 w w') {z : Nat} {o : Obj} (hz : w.heap[z]? = some o) (h1 : z ≠ m1) (h2 : z ≠ m2) : w'.heap[z]? = some o := (h.keep _ (heap_lt hz) h1 h2).trans hz
theorem heap_al {w : World} {z : Nat} {o : Obj} (h : w.heap[z]? = some o) (x : Obj) : (w.alloc x).heap[z]? = some o := (Below.heap_alloc _ _ _ (heap_lt h)).trans h
theorem Tb.alloc {w : World} {B b m1 m2 : Nat} {N : Int → Nat} {L : Int → Option Nat} {n : Nat} (h : Tb w B b m1 m2 N L n) (o : Obj) : Tb (w.alloc o) B b m1 m2 N L n := h.below ((Below.refl _ w).alloc (Nat.le_refl _) _)
set_option maxHeartbeats 1000000 in
theorem works_any (w : World) : Calls Try.prog 7 #[] w fun e w' => e = .returned (.bool true) ∧ Below w.heap.size w w' := by
  have k1 := new_any w
  generalize hB0 : w.heap.size = B at k1
  go_enter Try.func7, Try.ntmps7
  go_upto_region 2 with (go_at_call 8; refine k1.mono ?_; rintro e w1 ⟨rfl, hT1, hb1⟩)
  have k2 := make_ok w1 _ _ _ _ _ _ _ hT1 3 (by omega) (by unfold I64; omega) rfl (by omega)
  clear k1
  go_upto_region 3 with (go_at_call 11; refine k2.mono ?_; unfold hdV; rintro e w2 ⟨rfl, hT2, hF2⟩)
  have n2 := hT2.nm
  have za := heap_alloc_new w2 (.cells #[.int .i64 3, .int .u64 1] 34)
  have hT3 := hT2.alloc (.cells #[.int .i64 3, .int .u64 1] 34)
  have hb3 : Below B w (w2.alloc (.cells #[.int .i64 3, .int .u64 1] 34)) := (hb1.trans hF2.bel).alloc hT2.size _
  clear k2
  generalize w2.alloc (.cells #[.int .i64 3, .int .u64 1] 34) = w3 at za hT3 hb3 ⊢
  generalize w2.heap.size = za' at za n2 ⊢
  have a0 : w3.cell? ⟨za', 0, none⟩ = some (.int .i64 3) := by rw [cell_of za]; rfl
  have a1 : w3.cell? ⟨za', 1, none⟩ = some (.int .u64 1) := by rw [cell_of za]; rfl
  have k3 := drop_ok w3 _ _ _ _ _ _ _ hT3 3 1 rfl
  go_upto_region 4 with (go_at_call 9; refine k3.mono ?_; rintro e w4 ⟨rfl, hT4, hF4⟩)
  have za4 := hF4.at za (by omega) (by omega)
  have hb4 := hb3.trans hF4.bel
  have k4 := make_ok w4 _ _ _ _ _ _ _ hT4 3 (by omega) (by unfold I64; omega) rfl (by omega)
  rw [show updN (fun _ => 0) 3 (0 + 1) 3 + 1 = 2 from rfl] at k4
  clear k3 a0 a1 za hT3 hT1 hT2 hF2 hb1
  go_upto_region 5 with (go_at_call 11; refine k4.mono ?_; unfold hdV; rintro e w5 ⟨rfl, hT5, hF5⟩)
  have za5 := hF5.at za4 (by omega) (by omega)
  have zb6 := heap_alloc_new w5 (.cells #[.int .i64 3, .int .u64 2] 34)
  have za6 := heap_al za5 (.cells #[.int .i64 3, .int .u64 2] 34)
  have hT6 := hT5.alloc (.cells #[.int .i64 3, .int .u64 2] 34)
  have hb6 : Below B w (w5.alloc (.cells #[.int .i64 3, .int .u64 2] 34)) := (hb4.trans hF5.bel).alloc hT5.size _
  clear k4
  generalize w5.alloc (.cells #[.int .i64 3, .int .u64 2] 34) = w6 at zb6 za6 hT6 hb6 ⊢
  generalize w5.heap.size = zb' at zb6 ⊢
  have k5 := of_any w6 _ _ _ _ _ _ _ hT6 3
  rw [show ofM (updL (updL (updL (fun _ => none) 3 (some (0 + 1))) 3 none) 3 (some 2)) 3 = #[hdV 3 2, .bool true] from rfl] at k5
  go_upto_region 6 with (go_at_call 13; refine k5.mono ?_; unfold hdV; rintro e w7 ⟨rfl, hb7⟩)
  have hT7 := (hT6.below hb7).alloc (.cells #[.int .i64 3, .int .u64 2] 34)
  have zc7 := heap_alloc_new w7 (.cells #[.int .i64 3, .int .u64 2] 34)
  have za7 := heap_al ((hb7.block _ (heap_lt za6)).trans za6) (.cells #[.int .i64 3, .int .u64 2] 34)
  have zb7 := heap_al ((hb7.block _ (heap_lt zb6)).trans zb6) (.cells #[.int .i64 3, .int .u64 2] 34)
  have hb8 : Below B w (w7.alloc (.cells #[.int .i64 3, .int .u64 2] 34)) := (hb6.trans (hb7.mono hT6.size)).alloc (hT6.below hb7).size _
  clear k5 zb6 za6 hT6 hb6 za5 za4 hT5 hF5 hb4 hF4 hT4 hb3
  generalize w7.alloc (.cells #[.int .i64 3, .int .u64 2] 34) = w8 at zc7 za7 zb7 hT7 hb8 ⊢
  generalize w7.heap.size = zc' at zc7 ⊢
  have q1 := fun W => eqlH 3 3 1 1 W
  have q2 := fun W => eqlH 3 3 2 2 W
  have k8 := lives_any w8 _ _ _ _ _ _ _ hT7 3 1
  have x0 := cell_of za7 0
  have x1 := cell_of za7 1
  have y0 := cell_of zb7 0
  have y1 := cell_of zb7 1
  simp at x0 x1 y0 y1
  go_wp2_with (first
    | (go_at_call_of 16 (Value.int .u64 1); go_loud (refine k8.mono ?_; rintro e w9 ⟨rfl, hb9⟩; have za9 := (hb9.block _ (heap_lt za7)).trans za7; have zb9 := (hb9.block _ (heap_lt zb7)).trans zb7; have zc9 := (hb9.block _ (heap_lt zc7)).trans zc7; have hT9 := hT7.below hb9; have b0 := cell_of zb9 0; have b1 := cell_of zb9 1; simp at b0 b1; have k9 := lives_any w9 _ _ _ _ _ _ _ hT9 3 2))
    | (go_at_call_of 16 (Value.int .u64 2); go_loud (refine k9.mono ?_; rintro e w10 ⟨rfl, hb10⟩; have za10 := (hb10.block _ (heap_lt za9)).trans za9; have zb10 := (hb10.block _ (heap_lt zb9)).trans zb9; have zc10 := (hb10.block _ (heap_lt zc9)).trans zc9; have hT10 := hT9.below hb10; have d0 := cell_of zb10 0; have d1 := cell_of zb10 1; have f0 := cell_of zc10 0; have f1 := cell_of zc10 1; have g0 := cell_of za10 0; have g1 := cell_of za10 1; simp at d0 d1 f0 f1 g0 g1; have k10 := drop_stale w10 _ _ _ _ _ _ _ hT10 3 1 rfl))
    | (go_at_call 9; refine k10.mono ?_; rintro e w11 ⟨rfl, hb11⟩))
  all_goals go_returns
  all_goals exact ⟨rfl, ((hb8.trans (hb9.mono hT7.size)).trans (hb10.mono hT9.size)).trans (hb11.mono hT10.size)⟩
end Go.Proofs.Ytilohnmaaofipaa
