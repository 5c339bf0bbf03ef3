/- Towards the statements of package graph (layer 17): New, Push, Insert. -/
import Derived.Test.YthgpbbpmfpfjnaaGL
namespace Go.Proofs.Ythgpbbpmfpfjnaa
open Go.ChangeShapes Go.WideShapes Go.ChangeAt Go.RowKit
set_option linter.unusedVariables false
set_option linter.unusedSimpArgs false
set_option maxRecDepth 20000
/-- A graph at block g that has Y, in the blocks A. -/
def Gi (w : World) (B g N : Nat) (Y : Ys) (A : Nat → Prop) : Prop := ∃ m1 m2 Z, Gr w B g m1 m2 N Z ∧ yOf Z = Y ∧ A = Fp g m1 m2 Z
section
variable {w w' : World} {B g N : Nat} {Y : Ys} {A : Nat → Prop}
theorem Gi.lt (h : Gi w B g N Y A) : ∀ k, A k → B ≤ k ∧ k < w.heap.size := by
  obtain ⟨m1, m2, Z, h, rfl, rfl⟩ := h
  exact h.lt
theorem Gi.keep (h : Gi w B g N Y A) (hk : ∀ k, A k → w'.heap[k]? = w.heap[k]?) : Gi w' B g N Y A := by
  obtain ⟨m1, m2, Z, h, rfl, rfl⟩ := h
  exact ⟨m1, m2, Z, h.keep hk, rfl, rfl⟩
theorem Gi.bel (h : Gi w B g N Y A) (hb : Below w.heap.size w w') : Gi w' B g N Y A := h.keep fun k hk => hb.block k (h.lt k hk).2
theorem Gi.size (h : Gi w B g N Y A) : B ≤ w.heap.size := by
  obtain ⟨m1, m2, Z, h, rfl, rfl⟩ := h
  exact h.size
theorem Gi.mono (h : Gi w B g N Y A) {N' : Nat} (e : N ≤ N') : Gi w B g N' Y A := by
  obtain ⟨m1, m2, Z, h, rfl, rfl⟩ := h
  exact ⟨m1, m2, Z, h.mono e, rfl, rfl⟩
end
theorem gnew_any (w : World) : Calls Try.prog 8 #[] w fun e w' => ∃ g A, e = .returned (.pointer (some ⟨g, 0, none⟩)) ∧ Gi w' w.heap.size g 0 (fun _ => none) A ∧ Below w.heap.size w w' := by
  have hmm := @run_makeMap Try.prog
  have s0 : (w.alloc (.map #[] 0)).heap.size = w.heap.size + 1 := by simp
  have e2 := heap_alloc_new ((w.alloc (.map #[] 0)).alloc (.map #[] 0)) (.cells #[.map (some w.heap.size), .map (some (w.heap.size + 1))] 57)
  have m1 : P.HM ((w.alloc (.map #[] 0)).alloc (.map #[] 0)) w.heap.size 0 (fun _ => none) := (P.HM.new w).alloc _
  have m2 : F.HM ((w.alloc (.map #[] 0)).alloc (.map #[] 0)) (w.heap.size + 1) 0 (fun _ => none) := s0 ▸ F.HM.new (w.alloc (.map #[] 0))
  have hb := (((Below.refl _ w).alloc (Nat.le_refl _) (.map #[] 0)).alloc (by omega) (.map #[] 0)).alloc (by simp; omega) (.cells #[.map (some w.heap.size), .map (some (w.heap.size + 1))] 57)
  go_enter Try.func8, Try.ntmps8
  go_wp2
  all_goals go_returns
  all_goals
    refine ⟨_, _, rfl, ⟨w.heap.size, w.heap.size + 1, fun _ => none, ⟨?_, ?_, Nat.le_refl _, by omega, by omega, ⟨_, m1.alloc _, by simp⟩, ⟨0, _, m2.alloc _, by simp⟩, by simp, by simp, by simp, by simp, by simp⟩, rfl, rfl⟩, ?_⟩
    · first | exact e2 | simpa using e2
    · first | omega | (simp; omega)
    · first | exact hb | simpa using hb
theorem gpush_any (w : World) (B g N : Nat) (Y : Ys) (A : Nat → Prop) (h : Gi w B g N Y A) (hN : N + 1 ≤ 2000) (p : PKey) (f : FKey) (q : Bool) :
    Calls Try.prog 9 #[.pointer (some ⟨g, 0, none⟩), pK p, hK2 f.1, .int .i64 f.2, .bool q] w fun e w' => e = .returned (.int .i64 (pushY Y p f q).1) ∧ ∃ A', Gi w' B g (N + 1) (pushY Y p f q).2 A' ∧ FG B A A' w w' := by
  obtain ⟨m1, m2, Z, h, rfl, rfl⟩ := h
  have hb1 := (((Below.refl _ w).alloc (Nat.le_refl _) (.cells #[.int .i64 p.1, .int .i64 p.2.1, .int .i64 p.2.2] 28)).alloc (by simp) (.cells #[.int .i64 f.1.1, .int .u64 f.1.2] 31)).alloc (by simp; omega) (.cells #[.bool q] 4)
  have y6 := heap_al (heap_al (heap_alloc_new w (.cells #[.int .i64 p.1, .int .i64 p.2.1, .int .i64 p.2.2] 28)) (.cells #[.int .i64 f.1.1, .int .u64 f.1.2] 31)) (.cells #[.bool q] 4)
  have y7 := heap_al (heap_alloc_new (w.alloc (.cells #[.int .i64 p.1, .int .i64 p.2.1, .int .i64 p.2.2] 28)) (.cells #[.int .i64 f.1.1, .int .u64 f.1.2] 31)) (.cells #[.bool q] 4)
  have y9 := heap_alloc_new ((w.alloc (.cells #[.int .i64 p.1, .int .i64 p.2.1, .int .i64 p.2.2] 28)).alloc (.cells #[.int .i64 f.1.1, .int .u64 f.1.2] 31)) (.cells #[.bool q] 4)
  simp only [World.size_alloc] at y7 y9
  have hBw := h.size
  unfold pK P.hK hK2
  go_enter Try.func9, Try.ntmps9
  go_upto_region 1 with fail
  generalize ((w.alloc (.cells #[.int .i64 p.1, .int .i64 p.2.1, .int .i64 p.2.2] 28)).alloc (.cells #[.int .i64 f.1.1, .int .u64 f.1.2] 31)).alloc (.cells #[.bool q] 4) = W at hb1 y6 y7 y9 ⊢
  obtain ⟨d0, d1, d2⟩ := pl_cells y6
  have c0 := cell_of y7 0
  have c1 := cell_of y7 1
  simp at c0 c1
  have k1 := enter_push W B g m1 m2 N Z (h.bel hb1) hN p f q (w.heap.size + 1) (w.heap.size + 1 + 1) y7 y9
  unfold pK P.hK F.hK at k1
  go_wp2_with (go_at_call 21; refine k1.mono ?_; rintro e w1 ⟨r, rfl, Z', h1, h2, h3⟩)
  all_goals go_returns
  all_goals exact ⟨by rw [show (pushY (yOf Z) p f q).1 = r from by rw [← h3]]; rfl, _, ⟨m1, m2, Z', h1, by rw [← h3], rfl⟩, (FG.of hb1 hBw).trans h2⟩
theorem gins_any (w : World) (B g N : Nat) (Y : Ys) (A : Nat → Prop) (h : Gi w B g N Y A) (hN : N + 1 ≤ 2000) (p : PKey) (i : Int) (f : FKey) :
    Calls Try.prog 10 #[.pointer (some ⟨g, 0, none⟩), pK p, .int .i64 i, hK2 f.1, .int .i64 f.2] w fun e w' => e = .returned (.int .i64 (insY Y p i f).1) ∧ ∃ A', Gi w' B g (N + 1) (insY Y p i f).2 A' ∧ FG B A A' w w' := by
  obtain ⟨m1, m2, Z, h, rfl, rfl⟩ := h
  have hb1 := (((Below.refl _ w).alloc (Nat.le_refl _) (.cells #[.int .i64 p.1, .int .i64 p.2.1, .int .i64 p.2.2] 28)).alloc (by simp) (.cells #[.int .i64 i] 3)).alloc (by simp; omega) (.cells #[.int .i64 f.1.1, .int .u64 f.1.2] 31)
  have y6 := heap_al (heap_al (heap_alloc_new w (.cells #[.int .i64 p.1, .int .i64 p.2.1, .int .i64 p.2.2] 28)) (.cells #[.int .i64 i] 3)) (.cells #[.int .i64 f.1.1, .int .u64 f.1.2] 31)
  have y7 := heap_al (heap_alloc_new (w.alloc (.cells #[.int .i64 p.1, .int .i64 p.2.1, .int .i64 p.2.2] 28)) (.cells #[.int .i64 i] 3)) (.cells #[.int .i64 f.1.1, .int .u64 f.1.2] 31)
  have y8 := heap_alloc_new ((w.alloc (.cells #[.int .i64 p.1, .int .i64 p.2.1, .int .i64 p.2.2] 28)).alloc (.cells #[.int .i64 i] 3)) (.cells #[.int .i64 f.1.1, .int .u64 f.1.2] 31)
  simp only [World.size_alloc] at y7 y8
  have hBw := h.size
  unfold pK P.hK hK2
  go_enter Try.func10, Try.ntmps10
  go_upto_region 1 with fail
  generalize ((w.alloc (.cells #[.int .i64 p.1, .int .i64 p.2.1, .int .i64 p.2.2] 28)).alloc (.cells #[.int .i64 i] 3)).alloc (.cells #[.int .i64 f.1.1, .int .u64 f.1.2] 31) = W at hb1 y6 y7 y8 ⊢
  obtain ⟨d0, d1, d2⟩ := pl_cells y6
  have c0 := cell_of y8 0
  have c1 := cell_of y8 1
  simp at c0 c1
  have k1 := enter_ins W B g m1 m2 N Z (h.bel hb1) hN p f i (w.heap.size + 1) (w.heap.size + 1 + 1) y7 y8
  unfold pK P.hK F.hK at k1
  go_wp2_with (go_at_call 21; refine k1.mono ?_; rintro e w1 ⟨r, rfl, Z', h1, h2, h3⟩)
  all_goals go_returns
  all_goals exact ⟨by rw [show (insY (yOf Z) p i f).1 = r from by rw [← h3]]; rfl, _, ⟨m1, m2, Z', h1, by rw [← h3], rfl⟩, (FG.of hb1 hBw).trans h2⟩
end Go.Proofs.Ythgpbbpmfpfjnaa
