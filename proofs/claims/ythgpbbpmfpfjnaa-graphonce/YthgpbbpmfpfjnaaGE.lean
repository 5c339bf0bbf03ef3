/- Towards the statements of package graph (layer 17): In. -/
import Derived.Test.YthgpbbpmfpfjnaaGC
namespace Go.Proofs.Ythgpbbpmfpfjnaa
open Go.ChangeShapes Go.WideShapes Go.ChangeAt Go.RowKit
set_option linter.unusedVariables false
set_option linter.unusedSimpArgs false
set_option maxRecDepth 20000
theorem put3 {W : World} {z : Nat} {a b c : Value} {t : TypeId} (h : W.heap[z]? = some (.cells #[a, b, c] t (0, 0))) (d e f : Value) :
    (((W.setCell ⟨z, 0, none⟩ d).setCell ⟨z, 1, none⟩ e).setCell ⟨z, 2, none⟩ f).cell? ⟨z, 0, none⟩ = some d ∧ (((W.setCell ⟨z, 0, none⟩ d).setCell ⟨z, 1, none⟩ e).setCell ⟨z, 2, none⟩ f).cell? ⟨z, 1, none⟩ = some e ∧ (((W.setCell ⟨z, 0, none⟩ d).setCell ⟨z, 1, none⟩ e).setCell ⟨z, 2, none⟩ f).cell? ⟨z, 2, none⟩ = some f ∧
    (W.setCell ⟨z, 0, none⟩ d).cell? ⟨z, 1, none⟩ = some b ∧ ((W.setCell ⟨z, 0, none⟩ d).setCell ⟨z, 1, none⟩ e).cell? ⟨z, 2, none⟩ = some c ∧ W.cell? ⟨z, 0, none⟩ = some a ∧ W.cell? ⟨z, 1, none⟩ = some b ∧ W.cell? ⟨z, 2, none⟩ = some c := by
  have h1 := heap_setCell_same W z 0 _ _ d h
  have h2 := heap_setCell_same _ z 1 _ _ e h1
  have h3 := heap_setCell_same _ z 2 _ _ f h2
  refine ⟨?_, ?_, ?_, ?_, ?_, ?_, ?_, ?_⟩
  · rw [cell_of h3]; rfl
  · rw [cell_of h3]; rfl
  · rw [cell_of h3]; rfl
  · rw [cell_of h1]; rfl
  · rw [cell_of h2]; rfl
  · rw [cell_of h]; rfl
  · rw [cell_of h]; rfl
  · rw [cell_of h]; rfl
theorem zero28 (w : World) : (zeroValue 28).run Try.prog w = .ok (.agg #[.int .i64 0, .int .i64 0, .int .i64 0]) w := by kernel_rfl
theorem Gr.find {w : World} {B g m1 m2 N : Nat} {Z : Zs} (h : Gr w B g m1 m2 N Z) (f : FKey) : ∃ (p : PKey) (b : Bool), (∀ w', w'.heap[m2]? = w.heap[m2]? → (Instr.lookup 55 (.map (some m2)) (F.hK f) true).run Try.prog w' = .ok (.tuple #[pK p, .bool b]) w') ∧ ((b = true ∧ ∃ x, Z p = some x ∧ f ∈ x.L) ∨ (b = false ∧ p = (0, 0, 0) ∧ ∀ q x, Z q = some x → f ∉ x.L)) := by
  obtain ⟨n, G, hG, hG2⟩ := h.ins
  cases e : G f with
  | none => exact ⟨(0, 0, 0), false, fun w' hw => F.HM.look_no Try.underlying55 (hG.keep hw) e (zero28 w'), .inr ⟨rfl, rfl, fun q x hx hf => by
      have := (hG2 f _).2 ⟨q, x, hx, hf, rfl⟩
      rw [e] at this; cases this⟩⟩
  | some v =>
    obtain ⟨p, x, hx, hf, rfl⟩ := (hG2 f v).1 e
    exact ⟨p, true, fun w' hw => F.HM.look_yes Try.underlying55 (hG.keep hw) e, .inl ⟨rfl, x, hx, hf⟩⟩
theorem gin_any (w : World) (B g m1 m2 N : Nat) (Z : Zs) (h : Gr w B g m1 m2 N Z) (f : FKey) :
    ∃ (p : PKey) (b : Bool), ((b = true ∧ ∃ x, Z p = some x ∧ f ∈ x.L) ∨ (b = false ∧ p = (0, 0, 0) ∧ ∀ q x, Z q = some x → f ∉ x.L)) ∧
    Calls Try.prog 14 #[.pointer (some ⟨g, 0, none⟩), hK2 f.1, .int .i64 f.2] w fun e w' => e = .returned (.tuple #[pK p, .bool b]) ∧ Below w.heap.size w w' := by
  have hb1 := ((Below.refl _ w).alloc (Nat.le_refl _) (.cells #[.int .i64 f.1.1, .int .u64 f.1.2] 31)).alloc (by simp) (.cells #[.int .i64 0, .int .i64 0, .int .i64 0] 28)
  have y4 := heap_al (heap_alloc_new w (.cells #[.int .i64 f.1.1, .int .u64 f.1.2] 31)) (.cells #[.int .i64 0, .int .i64 0, .int .i64 0] 28)
  have y6 := heap_alloc_new (w.alloc (.cells #[.int .i64 f.1.1, .int .u64 f.1.2] 31)) (.cells #[.int .i64 0, .int .i64 0, .int .i64 0] 28)
  rw [World.size_alloc] at y6
  have g1 := h.bel hb1
  obtain ⟨p, b, hlook, hpb⟩ := g1.find f
  refine ⟨p, b, hpb, ?_⟩
  clear hpb
  unfold F.hK at hlook
  unfold pK P.hK hK2 at *
  go_enter Try.func14, Try.ntmps14
  go_upto_region 1 with fail
  generalize (w.alloc (.cells #[.int .i64 f.1.1, .int .u64 f.1.2] 31)).alloc (.cells #[.int .i64 0, .int .i64 0, .int .i64 0] 28) = W at hb1 y4 y6 g1 hlook ⊢
  have k1 := gmade_yes W g m1 g1.c0
  go_upto_region 3 with (go_at_call 28; refine k1.mono ?_; rintro e w' ⟨rfl, hw⟩; rw [hw]; clear hw)
  have c1 := g1.c1
  have a0 := cell_of y4 0
  have a1 := cell_of y4 1
  simp at a0 a1
  have hm2 : m2 < W.heap.size := (g1.lt m2 (.inr (.inr (.inl rfl)))).2
  have q1 := hlook W.drew rfl
  have q2 := hlook (W.alloc (.cells #[.int .i64 0, .int .i64 0, .int .i64 0] 28)).drew (Below.heap_alloc _ _ _ hm2)
  have b0 := cell_al a0 (.cells #[.int .i64 0, .int .i64 0, .int .i64 0] 28)
  have b1 := cell_al a1 (.cells #[.int .i64 0, .int .i64 0, .int .i64 0] 28)
  have c1' := cell_al c1 (.cells #[.int .i64 0, .int .i64 0, .int .i64 0] 28)
  have yn : (W.alloc (.cells #[.int .i64 p.1, .int .i64 p.2.1, .int .i64 p.2.2] 28)).drew.heap[W.heap.size]? = some (.cells #[.int .i64 p.1, .int .i64 p.2.1, .int .i64 p.2.2] 28 (0, 0)) := heap_alloc_new W (.cells #[.int .i64 p.1, .int .i64 p.2.1, .int .i64 p.2.2] 28)
  have yn6 : (W.alloc (.cells #[.int .i64 p.1, .int .i64 p.2.1, .int .i64 p.2.2] 28)).drew.heap[w.heap.size + 1]? = some (.cells #[.int .i64 0, .int .i64 0, .int .i64 0] 28 (0, 0)) := heap_al y6 (.cells #[.int .i64 p.1, .int .i64 p.2.1, .int .i64 p.2.2] 28)
  have hbn : Below w.heap.size w (W.alloc (.cells #[.int .i64 p.1, .int .i64 p.2.1, .int .i64 p.2.2] 28)).drew := (hb1.alloc hb1.size _).drew
  go_region
  all_goals
    generalize (W.alloc (.cells #[.int .i64 p.1, .int .i64 p.2.1, .int .i64 p.2.2] 28)).drew = W2 at *
    generalize W.heap.size = z at *
    obtain ⟨e0, e1, e2⟩ := pl_cells yn
    obtain ⟨s0, s1, s2, s3, s4, s5, s6, s7⟩ := put3 yn6 (.int .i64 p.1) (.int .i64 p.2.1) (.int .i64 p.2.2)
    have f0 := froz_of yn6 0
    have f1 := froz_of yn6 1
    have f2 := froz_of yn6 2
    go_wp2
    refine bodyPost_ret (by simp [results, Try.results14, go_sem, s0, s1, s2]; try rfl) rfl ?_
    exact ⟨rfl, (Below.setCell (p := (⟨w.heap.size + 1, 2, none⟩ : Addr)) (Below.setCell (p := (⟨w.heap.size + 1, 1, none⟩ : Addr)) (Below.setCell (p := (⟨w.heap.size + 1, 0, none⟩ : Addr)) hbn (Nat.le_succ _) _) (Nat.le_succ _) _) (Nat.le_succ _) _)⟩
end Go.Proofs.Ythgpbbpmfpfjnaa
