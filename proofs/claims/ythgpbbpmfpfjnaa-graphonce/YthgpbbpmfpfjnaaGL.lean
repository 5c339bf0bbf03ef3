/- Towards the statements of package graph (layer 17): a handle leaves a place. -/
import Derived.Test.YthgpbbpmfpfjnaaGK
namespace Go.Proofs.Ythgpbbpmfpfjnaa
open Go.ChangeShapes Go.WideShapes Go.ChangeAt Go.RowKit
set_option linter.unusedVariables false
set_option linter.unusedSimpArgs false
set_option maxRecDepth 20000
/-- What is left of a graph without one node of a place. -/
def cutY (Y : Ys) (p : PKey) (f : FKey) : Ys := match Y p with
  | none => Y
  | some (tr, L) => updY Y p (if L.erase f = [] then none else some (tr, L.erase f))
theorem erase_key {L : List FKey} (hn : (L.map Prod.fst).Nodup) {f : FKey} (hf : f ∈ L) : (L.erase f).map Prod.fst = (L.map Prod.fst).erase f.1 := by
  induction L with
  | nil => cases hf
  | cons a L ih =>
    rw [List.map_cons, List.nodup_cons] at hn
    by_cases e : a = f
    · subst e; simp
    · rcases List.mem_cons.1 hf with e2 | hf
      · exact absurd e2.symm e
      · have hne : a.1 ≠ f.1 := fun q => hn.1 (q ▸ List.mem_map.2 ⟨f, hf, rfl⟩)
        rw [List.erase_cons_tail (by simpa using e), List.map_cons, List.map_cons, List.erase_cons_tail (by simpa using hne), ih hn.2 hf]
theorem key_one {L : List FKey} (hn : (L.map Prod.fst).Nodup) {f g : FKey} (hf : f ∈ L) (hg : g ∈ L) (e : f.1 = g.1) : f = g := by
  obtain ⟨i, hi⟩ := List.getElem?_of_mem hf
  obtain ⟨j, hj⟩ := List.getElem?_of_mem hg
  have hlt := (List.getElem?_eq_some_iff.1 hi).1
  have : i = j := (List.getElem?_inj (l := L.map Prod.fst) (i := i) (j := j) (by simpa using hlt) hn).1 (by rw [List.getElem?_map, List.getElem?_map, hi, hj]; simp [e])
  subst this
  rw [hi] at hj
  exact Option.some.inj hj
theorem mem_cut {L : List FKey} (hn : (L.map Prod.fst).Nodup) (f g : FKey) : g ∈ L.erase f ↔ g ≠ f ∧ g ∈ L :=
  List.Nodup.mem_erase_iff (List.Pairwise.of_map (S := (· ≠ ·)) Prod.fst (fun a b h e => h (congrArg _ e)) hn)
section
variable {w0 v0 w1 v1 w2 v2 w3 wf : World} {B g m1 m2 N : Nat} {Z : Zs} {p : PKey} {x : Sp}
theorem Gr.cut (h : Gr w0 B g m1 m2 N Z) (hz : Z p = some x) (f : FKey) (hf : f ∈ x.L) (o : Option Sp) {S' : List Nat} (ho : o = if x.L.erase f = [] then none else some (x.to (x.L.erase f) S'))
    (e0 : v0.heap = w0.heap) (t1 : v0.mapTurned w1 m2) (i1 : ∃ n Q, (∀ f v, Q f = some v ↔ ∃ p x, Z p = some x ∧ f ∈ x.L ∧ v = pK p) ∧ F.HM w1 m2 n (F.updH Q f none))
    (e1 : v1.heap = w1.heap) (t2 : v1.mapTurned w2 x.y) (i2 : ∃ n Q, (∀ h v, Q h = some v ↔ ∃ n, (h, n) ∈ x.L ∧ v = .int .i64 n) ∧ HM w2 x.y n (updH Q f.1 none))
    (e2 : v2.heap = w2.heap) (hF : FL B x.S S' v2 w3) (hl : x.tr = false → Li w3 B x.l (x.K.erase f.1) S') (ht : x.tr = true → T.Ti w3 B x.l (x.K.erase f.1) S')
    (hb : Below B w0 wf) (kf : ∀ k, k < w3.heap.size → k ≠ m1 → wf.heap[k]? = w3.heap[k]?)
    (hsp : ∃ Q, P.HM wf m1 N Q ∧ ∀ q v, Q q = some v ↔ ∃ x, updZ Z p o q = some x ∧ v = .pointer (some ⟨x.s, 0, none⟩)) :
    ∃ Z', Gr wf B g m1 m2 N Z' ∧ FG B (Fp g m1 m2 Z) (Fp g m1 m2 Z') w0 wf ∧ yOf Z' = cutY (yOf Z) p f := by
  have hat := h.at_ p x hz
  obtain ⟨og, o1, o2⟩ := h.out p x hz
  have hlt1 := h.lt m1 (.inr (.inl rfl))
  have hlt2 := h.lt m2 (.inr (.inr (.inl rfl)))
  have hly := hat.lt x.y (.tail _ (.head _))
  have hls := hat.lt x.s (.head _)
  have s1 : w1.heap.size = w0.heap.size := by rw [turn_size t1, e0]
  have s2 : w2.heap.size = w1.heap.size := by rw [turn_size t2, e1]
  have s3 : w2.heap.size ≤ w3.heap.size := by have := hF.bel.size; rw [e2] at this; exact this
  have m1y : m1 ≠ x.y := by rintro e; exact o1 (by simp [Sp.foot, e])
  have m2y : m2 ≠ x.y := by rintro e; exact o2 (by simp [Sp.foot, e])
  have m1s : x.s ≠ m1 := by rintro e; exact o1 (by simp [Sp.foot, ← e])
  have m2s : x.s ≠ m2 := by rintro e; exact o2 (by simp [Sp.foot, ← e])
  have hS : ∀ k ∈ S', k ∈ x.S ∨ w0.heap.size ≤ k := fun k hk => by
    rcases hF.new k hk with a | a
    · exact .inl a
    · rw [e2] at a; exact .inr (by omega)
  have k3 : ∀ k, k < w2.heap.size → k ∉ x.S → w3.heap[k]? = w2.heap[k]? := fun k hk hn => by rw [hF.keep k (by rw [e2]; exact hk) hn, heap_of e2]
  have ks : ∀ k, k < w0.heap.size → k ∉ x.foot → k ≠ m1 → k ≠ m2 → wf.heap[k]? = w0.heap[k]? := by
    intro k hk hA a c
    rw [kf k (by omega) a, k3 k (by omega) (fun q => hA (by simp [Sp.foot, q])), T.turn_other t2 (by rw [e1]; omega) (by rintro rfl; exact hA (by simp [Sp.foot])), heap_of e1, T.turn_other t1 (by rw [e0]; omega) c, heap_of e0]
  have hn := hat.kd
  have hSk : ∀ k ∈ S', k < w3.heap.size → wf.heap[k]? = w3.heap[k]? := fun k hk hl2 => kf k hl2 (by
    rintro rfl
    rcases hS _ hk with a | a
    · exact o1 (by simp [Sp.foot, a])
    · omega)
  have hek := erase_key hn hf
  have hatf : ∀ y, o = some y → SpAt wf B y ∧ y.L = x.L.erase f ∧ y.s = x.s ∧ y = x.to (x.L.erase f) S' := by
    intro y hy
    rw [ho] at hy
    split at hy
    · cases hy
    · cases hy
      refine ⟨?_, rfl, rfl, rfl⟩
      refine hat.to ?_ (fun e => ?_) (fun e => ?_) ?_ hS ?_
      · rw [kf _ (by omega) m1s, k3 _ (by omega) hat.sn, T.turn_other t2 (by rw [e1]; omega) hat.sy, heap_of e1, T.turn_other t1 (by rw [e0]; omega) m2s, heap_of e0]
      · rw [hek]; exact (hl e).keep fun k hk => hSk k hk ((hl e).lt k hk).2
      · rw [hek]; exact (ht e).keep fun k hk => hSk k hk ((ht e).lt k hk).2
      · obtain ⟨n, Q, hQ, hH⟩ := i2
        refine ⟨n, _, hH.keep ?_, fun h' v => ?_⟩
        · rw [kf _ (by omega) m1y.symm, k3 _ (by omega) hat.yn]
        · by_cases e : h' = f.1
          · subst e
            rw [updH_self]
            constructor
            · intro e; cases e
            · rintro ⟨n, hm, rfl⟩
              obtain ⟨a, b⟩ := (mem_cut hn f _).1 hm
              exact absurd (key_one hn b hf rfl) a
          · rw [updH_ne _ _ e, hQ]
            constructor
            · rintro ⟨n, hm, rfl⟩; exact ⟨n, (mem_cut hn f _).2 ⟨fun q => e (congrArg Prod.fst q), hm⟩, rfl⟩
            · rintro ⟨n, hm, rfl⟩; exact ⟨n, ((mem_cut hn f _).1 hm).2, rfl⟩
      · rw [hek]; exact hn.erase _
  have hfoot : ∀ y, o = some y → ∀ k ∈ y.foot, k ∈ x.foot ∨ w0.heap.size ≤ k := by
    intro y hy
    obtain ⟨-, -, -, rfl⟩ := hatf y hy
    exact foot_to hS
  have hxf : ∀ k ∈ x.foot, Fp g m1 m2 Z k := fun k hk => .inr (.inr (.inr ⟨p, x, hz, hk⟩))
  refine ⟨updZ Z p o, h.upd p o x.foot ks (fun q y hy hq => h.ap p q x y hz hy (Ne.symm hq)) ⟨og, o1, o2⟩ hsp ?_ ?_ (Nat.le_refl N), ?_, ?_⟩
  · obtain ⟨n, Q, hQ, hH⟩ := i1
    refine ⟨n, _, hH.keep ?_, fun f' v => ?_⟩
    · rw [kf _ (by omega) h.ab.symm, k3 _ (by omega) (fun q => o2 (by simp [Sp.foot, q])), T.turn_other t2 (by rw [e1]; omega) m2y, heap_of e1]
    · by_cases e : f' = f
      · subst e
        rw [F.updH_self]
        constructor
        · intro e; cases e
        · rintro ⟨q, y, hy, hm, rfl⟩
          by_cases e2 : q = p
          · subst e2
            rw [updZ_self] at hy
            obtain ⟨-, e3, -⟩ := hatf y hy
            rw [e3] at hm
            exact absurd rfl ((mem_cut hn f' _).1 hm).1
          · rw [updZ_ne _ _ e2] at hy
            exact absurd (h.once hy hz hm hf) e2
      · rw [F.updH_ne _ _ e, hQ]
        constructor
        · rintro ⟨q, y, hy, hm, rfl⟩
          by_cases e2 : q = p
          · subst e2
            rw [hz] at hy
            cases hy
            have hm2 := (mem_cut hn f f').2 ⟨e, hm⟩
            refine ⟨q, x.to (x.L.erase f) S', ?_, hm2, rfl⟩
            rw [updZ_self, ho, if_neg]
            intro q; rw [q] at hm2; cases hm2
          · exact ⟨q, y, by rw [updZ_ne _ _ e2]; exact hy, hm, rfl⟩
        · rintro ⟨q, y, hy, hm, rfl⟩
          by_cases e2 : q = p
          · subst e2
            rw [updZ_self] at hy
            obtain ⟨-, e3, -⟩ := hatf y hy
            rw [e3] at hm
            exact ⟨q, x, hz, ((mem_cut hn f f').1 hm).2, rfl⟩
          · rw [updZ_ne _ _ e2] at hy
            exact ⟨q, y, hy, hm, rfl⟩
  · intro y hy
    obtain ⟨a1, a2, -⟩ := hatf y hy
    refine ⟨a1, ?_, ?_, hfoot y hy⟩
    · rw [ho] at hy
      split at hy
      · cases hy
      · rename_i hne
        cases hy
        exact hne
    · rw [a2]
      exact Nat.le_trans (List.erase_sublist).length_le (h.len p x hz)
  · have := h.fg p o x.foot hb ks hfoot
    exact ⟨this.bel, fun k hk hn => this.keep k hk (fun a => a.elim hn (fun c => hn (hxf k c))), fun k hk => (this.sub k hk).elim (fun a => .inl (a.elim id (hxf k))) .inr⟩
  · rw [yOf_upd]
    unfold cutY
    rw [show yOf Z p = some (x.tr, x.L) by simp [yOf, hz]]
    simp only
    congr 1
    rw [ho]
    split <;> rfl
end
end Go.Proofs.Ythgpbbpmfpfjnaa
