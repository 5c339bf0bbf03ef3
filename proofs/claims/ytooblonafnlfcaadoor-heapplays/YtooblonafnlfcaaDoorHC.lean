/- Towards the statements of package handle (layer 13): Drop; the document's example. -/
import Derived.Test.YtooblonafnlfcaaDoorHB
namespace Go.Proofs.YtooblonafnlfcaaDoor.H
open Go.ChangeShapes Go.WideShapes Go.ChangeAt Go.RowKit
set_option linter.unusedVariables false
set_option linter.unusedSimpArgs false
set_option maxRecDepth 20000
theorem drop_stale (w : World) (B b m1 m2 : Nat) (N : Int → Nat) (L : Int → Option Nat) (n : Nat) (h : Tb w B b m1 m2 N L n) (s : Int) (g : Nat) (hL : (L s == some g) = false) :
    Calls Tryd.prog 50 #[.pointer (some ⟨b, 0, none⟩), .agg #[.int .i64 s, .int .u64 g]] w fun e w' => e = .returned (.int .i64 130) ∧ Below w.heap.size w w' := by
  have hT1 := h.below ((Below.refl _ w).alloc (Nat.le_refl _) (.cells #[.int .i64 s, .int .u64 g] 34))
  have hc := h.cells
  have c1 : w.cell? ⟨b, 1, none⟩ = some (.map (some m2)) := by rw [cell_of hc]; rfl
  have k1 := made_yes (w.alloc (.cells #[.int .i64 s, .int .u64 g] 34)) b m2 (cell_al c1 _)
  have k2 := lives_any _ B b m1 m2 N L n hT1 s g
  rw [hL] at k2
  go_enter Tryd.func50, Tryd.ntmps50
  go_wp2_with (first | (go_at_call 58; refine k1.mono ?_; rintro e w' ⟨rfl, hw⟩; rw [hw]; clear hw) | (go_at_call 66; refine k2.mono ?_; rintro e w1 ⟨rfl, hB⟩))
  all_goals go_returns
  all_goals exact ⟨rfl, ((Below.refl _ w).alloc (Nat.le_refl _) _).trans (hB.mono (by simp))⟩
set_option maxHeartbeats 1000000 in
theorem drop_ok (w : World) (B b m1 m2 : Nat) (N : Int → Nat) (L : Int → Option Nat) (n : Nat) (h : Tb w B b m1 m2 N L n) (s : Int) (g : Nat) (hL : L s = some g) :
    Calls Tryd.prog 50 #[.pointer (some ⟨b, 0, none⟩), .agg #[.int .i64 s, .int .u64 g]] w fun e w' => e = .returned (.int .i64 0) ∧ Tb w' B b m1 m2 N (updL L s none) n ∧ Fh B m1 m2 w w' := by
  have hBw := h.size
  have hT1 := h.below ((Below.refl _ w).alloc (Nat.le_refl _) (.cells #[.int .i64 s, .int .u64 g] 34))
  have hc := h.cells
  have c1 : w.cell? ⟨b, 1, none⟩ = some (.map (some m2)) := by rw [cell_of hc]; rfl
  have k1 := made_yes (w.alloc (.cells #[.int .i64 s, .int .u64 g] 34)) b m2 (cell_al c1 _)
  have k2 := lives_any _ B b m1 m2 N L n hT1 s g
  rw [show (L s == some g) = true by simp [hL]] at k2
  go_enter Tryd.func50, Tryd.ntmps50
  go_upto_region 5 with (first | (go_at_call 58; refine k1.mono ?_; rintro e w' ⟨rfl, hw⟩; rw [hw]; clear hw) | (go_at_call 66; refine k2.mono ?_; rintro e w1 ⟨rfl, hB⟩))
  have hW : Below w.heap.size w w1 := ((Below.refl _ w).alloc (Nat.le_refl _) _).trans (hB.mono (by simp))
  have y0 : w1.cell? ⟨w.heap.size, 0, none⟩ = some (.int .i64 s) := (hB.cell (by simp)).trans (by simp)
  have hT := h.below hW
  have hc1 := hT.cells
  have d1 : w1.cell? ⟨b, 1, none⟩ = some (.map (some m2)) := by rw [cell_of hc1]; rfl
  clear k1 k2 hB c1
  obtain ⟨W2, p2, i2, t2⟩ := IM.del (w := w1.drew) Tryd.underlying102 Tryd.underlying3 (hT.im2.keep rfl) s 0
  obtain ⟨nb1, nb2, lm1, lm2⟩ := hT.nm
  obtain ⟨F, hF1, hF2⟩ := hT.im1
  go_region
  go_wp2
  all_goals go_returns
  have hF4 : Fh B m1 m2 w1.drew W2 := Fh.turn t2 (.inr rfl) hT.b2 hT.size
  refine ⟨rfl, ⟨(hF4.keep _ (heap_lt hc1) nb1 nb2).trans hc1, hT.bB, hT.b1, hT.b2, hT.ne, hT.nb, ⟨F, hF1.keep (t2.grown.block _ lm1 (by simp; exact hT.ne)), hF2⟩, ?_, hT.bd, fun k g' hg => ?_⟩, (Fh.of hW hBw).drew.trans hF4⟩
  · have : (fun k => (updL L s none k).map (hdV k)) = updF (fun k => (L k).map (hdV k)) s none := by
      funext k
      by_cases e : k = s
      · subst e; simp [updF, updL]
      · simp only [updF, updL, if_neg e]
    rw [this]
    exact i2
  · by_cases e : k = s
    · subst e; simp [updL] at hg
    · simp only [updL, if_neg e] at hg
      exact hT.gen k g' hg
theorem Fh.at {B m1 m2 : Nat} {w w' : World} (h : Fh B m1 m2 w w') {z : Nat} {o : Obj} (hz : w.heap[z]? = some o) (h1 : z ≠ m1) (h2 : z ≠ m2) : w'.heap[z]? = some o := (h.keep _ (heap_lt hz) h1 h2).trans hz
theorem heap_al {w : World} {z : Nat} {o : Obj} (h : w.heap[z]? = some o) (x : Obj) : (w.alloc x).heap[z]? = some o := (Below.heap_alloc _ _ _ (heap_lt h)).trans h
theorem Tb.alloc {w : World} {B b m1 m2 : Nat} {N : Int → Nat} {L : Int → Option Nat} {n : Nat} (h : Tb w B b m1 m2 N L n) (o : Obj) : Tb (w.alloc o) B b m1 m2 N L n := h.below ((Below.refl _ w).alloc (Nat.le_refl _) _)
end Go.Proofs.YtooblonafnlfcaaDoor.H
