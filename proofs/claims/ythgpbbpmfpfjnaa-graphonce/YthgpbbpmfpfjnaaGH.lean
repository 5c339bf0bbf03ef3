/- Towards the statements of package graph (layer 17): a node that comes, a node that goes (no walk in it). -/
import Derived.Test.YthgpbbpmfpfjnaaGG
namespace Go.Proofs.Ythgpbbpmfpfjnaa
open Go.ChangeShapes Go.WideShapes Go.ChangeAt Go.RowKit
set_option linter.unusedVariables false
set_option linter.unusedSimpArgs false
set_option maxRecDepth 20000
theorem Below.turn {B m : Nat} {a v w : World} (h : Below B a v) (t : v.mapTurned w m) (hm : B ≤ m) (hB : B ≤ v.heap.size) : Below B a w := h.trans ((Below.refl B v).grown t.grown hB (fun k e => by cases e; exact hm))
theorem heap_of {a b : World} (h : a.heap = b.heap) (k : Nat) : a.heap[k]? = b.heap[k]? := by rw [h]
/-- A place's row that may get a node. -/
structure Fit (w : World) (B g m1 m2 N : Nat) (Z : Zs) (p : PKey) (x : Sp) : Prop where
  gr : Gr w B g m1 m2 N Z
  at_ : SpAt w B x
  fr : ∀ q y, Z q = some y → q ≠ p → ∀ k ∈ x.foot, k ∉ y.foot
  out : g ∉ x.foot ∧ m1 ∉ x.foot ∧ m2 ∉ x.foot
  zx : ∀ y, Z p = some y → y = x
  zn : Z p = none → x.L = []
  len : x.L.length ≤ N
theorem Fit.of {w : World} {B g m1 m2 N : Nat} {Z : Zs} {p : PKey} {x : Sp} (h : Gr w B g m1 m2 N Z) (hx : Z p = some x) : Fit w B g m1 m2 N Z p x :=
  ⟨h, h.at_ p x hx, fun q y hy hq => h.ap p q x y hx hy (Ne.symm hq), h.out p x hx, (fun y hy => by rw [hx] at hy; exact (Option.some.inj hy).symm), (fun e => by rw [hx] at e; cases e), h.len p x hx⟩
theorem Fit.bel {w w' : World} {B g m1 m2 N : Nat} {Z : Zs} {p : PKey} {x : Sp} (h : Fit w B g m1 m2 N Z p x) (hb : Below w.heap.size w w') : Fit w' B g m1 m2 N Z p x :=
  ⟨h.gr.bel hb, h.at_.bel hb, h.fr, h.out, h.zx, h.zn, h.len⟩
section
variable {w0 w1 v1 w2 v2 w3 v3 w4 : World} {B g m1 m2 N : Nat} {Z : Zs} {p : PKey} {x : Sp}
theorem chain_put (h : Fit w0 B g m1 m2 N Z p x) {S' : List Nat} (hF : FL B x.S S' w0 w1) (e1 : v1.heap = w1.heap) (t2 : v1.mapTurned w2 m1) (e2 : v2.heap = w2.heap) (t3 : v2.mapTurned w3 x.y) (e3 : v3.heap = w3.heap) (t4 : v3.mapTurned w4 m2) :
    w1.heap.size = w4.heap.size ∧ (∀ k, k < w1.heap.size → k ≠ m1 → k ≠ x.y → k ≠ m2 → w4.heap[k]? = w1.heap[k]?) ∧ (∀ k, k < w0.heap.size → k ∉ x.foot → k ≠ m1 → k ≠ m2 → w4.heap[k]? = w0.heap[k]?) := by
  have s1 : w2.heap.size = w1.heap.size := by rw [turn_size t2, e1]
  have s2 : w3.heap.size = w2.heap.size := by rw [turn_size t3, e2]
  have s3 : w4.heap.size = w3.heap.size := by rw [turn_size t4, e3]
  have key : ∀ k, k < w1.heap.size → k ≠ m1 → k ≠ x.y → k ≠ m2 → w4.heap[k]? = w1.heap[k]? := by
    intro k hk a b c
    rw [T.turn_other t4 (by rw [e3]; omega) c, heap_of e3, T.turn_other t3 (by rw [e2]; omega) b, heap_of e2, T.turn_other t2 (by rw [e1]; omega) a, heap_of e1]
  refine ⟨by omega, key, fun k hk hA a c => ?_⟩
  have hb := hF.bel.size
  rw [key k (by omega) a (by rintro rfl; exact hA (by simp [Sp.foot])) c]
  exact hF.keep k hk (fun q => hA (by simp [Sp.foot, q]))
theorem Gr.put (h : Fit w0 B g m1 m2 N Z p x) (f : FKey) (hf : ∀ q y, Z q = some y → f ∉ y.L) (hk : f.1 ∉ x.K) (L : List FKey) (hL : ∀ f', f' ∈ L ↔ f' = f ∨ f' ∈ x.L) (kd : (L.map Prod.fst).Nodup) (hlen : L.length ≤ x.L.length + 1)
    (hb : Below B w0 w4) {S' : List Nat} (hF : FL B x.S S' w0 w1) (hl : x.tr = false → Li w1 B x.l (L.map Prod.fst) S') (ht : x.tr = true → T.Ti w1 B x.l (L.map Prod.fst) S')
    (e1 : v1.heap = w1.heap) (t2 : v1.mapTurned w2 m1) (i2 : ∃ Q, (∀ q v, Q q = some v ↔ ∃ x, Z q = some x ∧ v = .pointer (some ⟨x.s, 0, none⟩)) ∧ P.HM w2 m1 (N + 1) (P.updH Q p (some (.pointer (some ⟨x.s, 0, none⟩)))))
    (e2 : v2.heap = w2.heap) (t3 : v2.mapTurned w3 x.y) (i3 : ∃ n Q, (∀ h v, Q h = some v ↔ ∃ n, (h, n) ∈ x.L ∧ v = .int .i64 n) ∧ HM w3 x.y n (updH Q f.1 (some (.int .i64 f.2))))
    (e3 : v3.heap = w3.heap) (t4 : v3.mapTurned w4 m2) (i4 : ∃ n Q, (∀ f v, Q f = some v ↔ ∃ p x, Z p = some x ∧ f ∈ x.L ∧ v = pK p) ∧ F.HM w4 m2 n (F.updH Q f (some (pK p)))) :
    Gr w4 B g m1 m2 (N + 1) (updZ Z p (some (x.to L S'))) ∧ FG B (fun k => Fp g m1 m2 Z k ∨ k ∈ x.foot) (Fp g m1 m2 (updZ Z p (some (x.to L S')))) w0 w4 := by
  obtain ⟨sz, key, ks⟩ := chain_put h hF e1 t2 e2 t3 e3 t4
  have hlt1 := h.gr.lt m1 (.inr (.inl rfl))
  have hlt2 := h.gr.lt m2 (.inr (.inr (.inl rfl)))
  have hly := h.at_.lt x.y (.tail _ (.head _))
  have hls := h.at_.lt x.s (.head _)
  have hws := hF.bel.size
  have m1y : m1 ≠ x.y := by rintro e; exact h.out.2.1 (by simp [Sp.foot, e])
  have m2y : m2 ≠ x.y := by rintro e; exact h.out.2.2 (by simp [Sp.foot, e])
  have m1s : m1 ≠ x.s := by rintro e; exact h.out.2.1 (by simp [Sp.foot, e])
  have m2s : m2 ≠ x.s := by rintro e; exact h.out.2.2 (by simp [Sp.foot, e])
  have s1 : w2.heap.size = w1.heap.size := by rw [turn_size t2, e1]
  have s2 : w3.heap.size = w2.heap.size := by rw [turn_size t3, e2]
  have hS : ∀ k ∈ S', k ∈ x.S ∨ w0.heap.size ≤ k := hF.new
  have hSk : ∀ k ∈ S', w4.heap[k]? = w1.heap[k]? := by
    intro k hk
    have lt : k < w1.heap.size := by
      cases e : x.tr with
      | false => exact ((hl e).lt k hk).2
      | true => exact ((ht e).lt k hk).2
    refine key k lt ?_ ?_ ?_
    · rintro rfl; rcases hS _ hk with a | a
      · exact h.out.2.1 (by simp [Sp.foot, a])
      · omega
    · rintro rfl; rcases hS _ hk with a | a
      · exact h.at_.yn a
      · omega
    · rintro rfl; rcases hS _ hk with a | a
      · exact h.out.2.2 (by simp [Sp.foot, a])
      · omega
  have hat : SpAt w4 B (x.to L S') := by
    refine h.at_.to ?_ (fun e => (hl e).keep hSk) (fun e => (ht e).keep hSk) ?_ hS kd
    · rw [key x.s (by omega) m1s.symm h.at_.sy m2s.symm]
      exact hF.keep _ hls.2 h.at_.sn
    · obtain ⟨n, Q, hQ, hH⟩ := i3
      refine ⟨n, _, hH.keep ?_, fun h' v => ?_⟩
      · rw [T.turn_other t4 (by rw [e3]; omega) m2y.symm, heap_of e3]
      · by_cases e : h' = f.1
        · subst e
          rw [updH_self]
          constructor
          · intro e; cases e; exact ⟨f.2, (hL _).2 (.inl rfl), rfl⟩
          · rintro ⟨n, hn, rfl⟩
            rcases (hL _).1 hn with e | e
            · rw [← e]
            · exact absurd (List.mem_map.2 ⟨_, e, rfl⟩) hk
        · rw [updH_ne _ _ e, hQ]
          constructor
          · rintro ⟨n, hn, rfl⟩; exact ⟨n, (hL _).2 (.inr hn), rfl⟩
          · rintro ⟨n, hn, rfl⟩
            rcases (hL _).1 hn with e2 | e2
            · exact absurd (congrArg Prod.fst e2) e
            · exact ⟨n, e2, rfl⟩
  refine ⟨h.gr.upd p _ x.foot ks h.fr h.out ?_ ?_ ?_ (Nat.le_succ N), h.gr.fg p _ x.foot hb ks ?_⟩
  · obtain ⟨Q, hQ, hH⟩ := i2
    refine ⟨_, hH.keep ?_, fun q v => ?_⟩
    · rw [T.turn_other t4 (by rw [e3]; omega) h.gr.ab, heap_of e3, T.turn_other t3 (by rw [e2]; omega) m1y, heap_of e2]
    · by_cases e : q = p
      · subst e
        rw [P.updH_self, updZ_self]
        constructor
        · intro e; cases e; exact ⟨_, rfl, rfl⟩
        · rintro ⟨y, e, rfl⟩; cases e; rfl
      · rw [P.updH_ne _ _ e, updZ_ne _ _ e]; exact hQ q v
  · obtain ⟨n, Q, hQ, hH⟩ := i4
    refine ⟨n, _, hH, fun f' v => ?_⟩
    by_cases e : f' = f
    · subst e
      rw [F.updH_self]
      constructor
      · intro e; cases e; exact ⟨p, _, updZ_self _ _ _, (hL _).2 (.inl rfl), rfl⟩
      · rintro ⟨q, y, hy, hm, rfl⟩
        by_cases e2 : q = p
        · rw [e2]
        · rw [updZ_ne _ _ e2] at hy; exact absurd hm (hf q y hy)
    · rw [F.updH_ne _ _ e, hQ]
      constructor
      · rintro ⟨q, y, hy, hm, rfl⟩
        by_cases e2 : q = p
        · subst e2
          have := h.zx y hy
          subst this
          exact ⟨q, _, updZ_self _ _ _, (hL _).2 (.inr hm), rfl⟩
        · exact ⟨q, y, by rw [updZ_ne _ _ e2]; exact hy, hm, rfl⟩
      · rintro ⟨q, y, hy, hm, rfl⟩
        by_cases e2 : q = p
        · subst e2
          rw [updZ_self] at hy
          cases hy
          rcases (hL f').1 hm with e3 | e3
          · exact absurd e3 e
          · cases hz : Z q with
            | none => rw [h.zn hz] at e3; cases e3
            | some y =>
              have := h.zx y hz
              subst this
              exact ⟨q, y, hz, e3, rfl⟩
        · rw [updZ_ne _ _ e2] at hy
          exact ⟨q, y, hy, hm, rfl⟩
  · intro y e
    cases e
    refine ⟨hat, fun e => ?_, ?_, foot_to hS⟩
    · have : f ∈ L := (hL f).2 (.inl rfl)
      rw [show L = [] from e] at this
      cases this
    · have := h.len
      show L.length ≤ N + 1
      omega
  · intro y e
    cases e
    exact foot_to hS
end
end Go.Proofs.Ythgpbbpmfpfjnaa
