/- Towards the statements of package graph (layer 17): what is left of a graph behind a change at one place (no walk in it). -/
import Derived.Test.YthgpbbpmfpfjnaaGC
namespace Go.Proofs.Ythgpbbpmfpfjnaa
open Go.ChangeShapes Go.WideShapes Go.ChangeAt Go.RowKit
set_option linter.unusedVariables false
set_option linter.unusedSimpArgs false
set_option maxRecDepth 20000
def updZ (Z : Zs) (p : PKey) (o : Option Sp) : Zs := fun q => if q = p then o else Z q
theorem updZ_self (Z : Zs) (p : PKey) (o : Option Sp) : updZ Z p o p = o := by simp [updZ]
theorem updZ_ne (Z : Zs) {p q : PKey} (o : Option Sp) (h : q ≠ p) : updZ Z p o q = Z q := by simp [updZ, h]
/-- What a call of a graph leaves. -/
structure FG (B : Nat) (A A' : Nat → Prop) (w w' : World) : Prop where
  bel : Below B w w'
  keep : ∀ k, k < w.heap.size → ¬ A k → w'.heap[k]? = w.heap[k]?
  sub : ∀ k, A' k → A k ∨ w.heap.size ≤ k
theorem FG.of {B : Nat} {A : Nat → Prop} {w w' : World} (h : Below w.heap.size w w') (hB : B ≤ w.heap.size) : FG B A A w w' := ⟨h.mono hB, fun k hk _ => h.block k hk, fun k hk => .inl hk⟩
theorem FG.trans {B : Nat} {A A' A'' : Nat → Prop} {w w' w'' : World} (h : FG B A A' w w') (k : FG B A' A'' w' w'') : FG B A A'' w w'' := by
  refine ⟨h.bel.trans k.bel, fun i hi hn => (k.keep i (Nat.lt_of_lt_of_le hi h.bel.size) fun q => ?_).trans (h.keep i hi hn), fun i hi => ?_⟩
  · rcases h.sub i q with a | a
    · exact hn a
    · omega
  · rcases k.sub i hi with a | a
    · exact h.sub i a
    · exact .inr (Nat.le_trans h.bel.size a)
section
variable {w w' : World} {B g m1 m2 N N' : Nat} {Z : Zs}
theorem Gr.kinds (h : Gr w B g m1 m2 N Z) : g ≠ m1 ∧ g ≠ m2 := by
  obtain ⟨F, hF, _⟩ := h.spots
  obtain ⟨n, G, hG, _⟩ := h.ins
  have hc := h.cells
  refine ⟨fun e => ?_, fun e => ?_⟩
  · rw [e] at hc; exact hF.notcells hc
  · rw [e] at hc; exact hG.notcells hc
theorem Gr.upd (h : Gr w B g m1 m2 N Z) (p : PKey) (o : Option Sp) (A : List Nat)
    (ks : ∀ k, k < w.heap.size → k ∉ A → k ≠ m1 → k ≠ m2 → w'.heap[k]? = w.heap[k]?)
    (hAz : ∀ q y, Z q = some y → q ≠ p → ∀ k ∈ A, k ∉ y.foot) (hAg : g ∉ A ∧ m1 ∉ A ∧ m2 ∉ A)
    (hsp : ∃ F, P.HM w' m1 N' F ∧ ∀ q v, F q = some v ↔ ∃ x, updZ Z p o q = some x ∧ v = .pointer (some ⟨x.s, 0, none⟩))
    (hin : ∃ n G, F.HM w' m2 n G ∧ ∀ f v, G f = some v ↔ ∃ q x, updZ Z p o q = some x ∧ f ∈ x.L ∧ v = pK q)
    (ho : ∀ x, o = some x → SpAt w' B x ∧ x.L ≠ [] ∧ x.L.length ≤ N' ∧ ∀ k ∈ x.foot, k ∈ A ∨ w.heap.size ≤ k) (hN : N ≤ N') : Gr w' B g m1 m2 N' (updZ Z p o) := by
  obtain ⟨gk1, gk2⟩ := h.kinds
  have hz : ∀ q x, updZ Z p o q = some x → (q = p ∧ o = some x) ∨ (q ≠ p ∧ Z q = some x) := fun q x e => by
    by_cases e2 : q = p
    · subst e2; rw [updZ_self] at e; exact .inl ⟨rfl, e⟩
    · rw [updZ_ne _ _ e2] at e; exact .inr ⟨e2, e⟩
  have hlt := h.lt
  refine ⟨(ks g (hlt g (.inl rfl)).2 hAg.1 gk1 gk2).trans h.cells, h.gB, h.aB, h.bB, h.ab, hsp, hin, ?_, ?_, ?_, ?_, ?_⟩
  · intro q x hx
    rcases hz q x hx with ⟨rfl, e⟩ | ⟨hq, e⟩
    · exact (ho x e).1
    · refine (h.at_ q x e).keep fun k hk => ks k ((h.at_ q x e).lt k hk).2 (fun hA => hAz q x e hq k hA hk) ?_ ?_
      · rintro rfl; exact (h.out q x e).2.1 hk
      · rintro rfl; exact (h.out q x e).2.2 hk
  · intro q x hx
    rcases hz q x hx with ⟨rfl, e⟩ | ⟨hq, e⟩
    · exact (ho x e).2.1
    · exact h.ne q x e
  · intro q x hx
    rcases hz q x hx with ⟨rfl, e⟩ | ⟨hq, e⟩
    · exact (ho x e).2.2.1
    · exact Nat.le_trans (h.len q x e) hN
  · have one : ∀ q x y, o = some x → q ≠ p → Z q = some y → ∀ k ∈ x.foot, k ∉ y.foot := by
      intro q x y ex hq ey k hk hk2
      rcases (ho x ex).2.2.2 k hk with a | a
      · exact hAz q y ey hq k a hk2
      · have := ((h.at_ q y ey).lt k hk2).2
        omega
    intro q r x y hx hy hne k hk hk2
    rcases hz q x hx with ⟨rfl, e⟩ | ⟨hq, e⟩
    · rcases hz r y hy with ⟨rfl, e2⟩ | ⟨hr, e2⟩
      · exact hne rfl
      · exact one r x y e hr e2 k hk hk2
    · rcases hz r y hy with ⟨rfl, e2⟩ | ⟨hr, e2⟩
      · exact one q y x e2 hq e k hk2 hk
      · exact h.ap q r x y e e2 hne k hk hk2
  · intro q x hx
    rcases hz q x hx with ⟨rfl, e⟩ | ⟨hq, e⟩
    · have key : ∀ m, m < w.heap.size → m ∉ A → m ∉ x.foot := fun m hm hA hk => by
        rcases (ho x e).2.2.2 m hk with a | a
        · exact hA a
        · omega
      exact ⟨key g (hlt g (.inl rfl)).2 hAg.1, key m1 (hlt m1 (.inr (.inl rfl))).2 hAg.2.1, key m2 (hlt m2 (.inr (.inr (.inl rfl)))).2 hAg.2.2⟩
    · exact h.out q x e
theorem Gr.fg (h : Gr w B g m1 m2 N Z) (p : PKey) (o : Option Sp) (A : List Nat) (hb : Below B w w') (ks : ∀ k, k < w.heap.size → k ∉ A → k ≠ m1 → k ≠ m2 → w'.heap[k]? = w.heap[k]?)
    (ho : ∀ x, o = some x → ∀ k ∈ x.foot, k ∈ A ∨ w.heap.size ≤ k) : FG B (fun k => Fp g m1 m2 Z k ∨ k ∈ A) (Fp g m1 m2 (updZ Z p o)) w w' := by
  refine ⟨hb, fun k hk hn => ks k hk (fun q => hn (.inr q)) (fun q => hn (.inl (.inr (.inl q)))) (fun q => hn (.inl (.inr (.inr (.inl q))))), ?_⟩
  rintro k (rfl | rfl | rfl | ⟨q, x, hx, hk⟩)
  · exact .inl (.inl (.inl rfl))
  · exact .inl (.inl (.inr (.inl rfl)))
  · exact .inl (.inl (.inr (.inr (.inl rfl))))
  · by_cases e2 : q = p
    · subst e2; rw [updZ_self] at hx
      rcases ho x hx k hk with a | a
      · exact .inl (.inr a)
      · exact .inr a
    · rw [updZ_ne _ _ e2] at hx
      exact .inl (.inl (.inr (.inr (.inr ⟨q, x, hx, hk⟩))))
end
/-- A row with other handles. -/
def Sp.to (x : Sp) (L : List FKey) (S : List Nat) : Sp := { x with L := L, S := S }
theorem Sp.toK (x : Sp) (L : List FKey) (S : List Nat) : (x.to L S).K = L.map Prod.fst := rfl
section
variable {w w' : World} {B : Nat} {x : Sp}
/-- What a place has, behind a call of its list or tree, and a change of its map. -/
theorem SpAt.to {L : List FKey} {S : List Nat} (h : SpAt w B x) (hs : w'.heap[x.s]? = w.heap[x.s]?) (hl : x.tr = false → Li w' B x.l (L.map Prod.fst) S) (ht : x.tr = true → T.Ti w' B x.l (L.map Prod.fst) S)
    (hb : ∃ n F, HM w' x.y n F ∧ ∀ h v, F h = some v ↔ ∃ n, (h, n) ∈ L ∧ v = .int .i64 n) (hS : ∀ k ∈ S, k ∈ x.S ∨ w.heap.size ≤ k) (kd : (L.map Prod.fst).Nodup) : SpAt w' B (x.to L S) := by
  refine ⟨hs.trans h.cells, hl, ht, hb, h.sB, h.yB, fun q => ?_, fun q => ?_, kd⟩
  · rcases hS _ q with a | a
    · exact h.sn a
    · have := (h.lt x.s (.head _)).2
      exact absurd (show w.heap.size ≤ x.s from a) (by omega)
  · rcases hS _ q with a | a
    · exact h.yn a
    · have := (h.lt x.y (.tail _ (.head _))).2
      exact absurd (show w.heap.size ≤ x.y from a) (by omega)
end
theorem foot_to {x : Sp} {L : List FKey} {S : List Nat} {n : Nat} (hS : ∀ k ∈ S, k ∈ x.S ∨ n ≤ k) : ∀ k ∈ (x.to L S).foot, k ∈ x.foot ∨ n ≤ k := by
  intro k hk
  simp only [Sp.foot, Sp.to, List.mem_cons] at hk ⊢
  rcases hk with rfl | rfl | hk
  · exact .inl (.inl rfl)
  · exact .inl (.inr (.inl rfl))
  · rcases hS k hk with a | a
    · exact .inl (.inr (.inr a))
    · exact .inr a
end Go.Proofs.Ythgpbbpmfpfjnaa
