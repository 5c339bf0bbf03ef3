/- Regions of open order whose calls make memory: what each operation has left in its slot, whatever has been done. -/
import Derived.Test.YtdmdmbcapjmnlabKX
namespace Go.Proofs.Ytdmdmbcapjmnlab
open Go.ChangeShapes Go.WideShapes Go.ChangeAt Go.RowKit
set_option linter.unusedVariables false
set_option maxRecDepth 20000
set_option linter.unusedSimpArgs false

theorem wanted_of {o : Oper} {l : List Oper} {a : Act} {k : Nat} {b c r : Bool} {p : Oper} {d : Nat} {v : Value} (hg : o.guard = some (k, b)) (hp : l.toArray[k]? = some p) (hd : p.dst = some d) (hv : a.tmps[d]? = some v) (hb : v = .bool c) (hr : (some c == some b) = r) : Region.wanted o (yielded l.toArray a.tmps) = r := by
  subst hb
  unfold Region.wanted yielded
  simp only [hg, hp, hd, hv, Option.bind_some]
  exact hr
theorem keeps_yes {P : Program} {md : Region.Mode} {Q : Exit → Act → World → Prop} {l : List Oper} {I : (Nat → Bool) → Act → World → Prop} {i : Nat} {o : Oper}
    (h : ∀ (L : Nat → Bool) (a : Act) (w : World), L i = false → edgesOn md L o.after.toList → I L a w → Region.wanted o (yielded l.toArray a.tmps) = true ∧ o.wp P a w (I (upd L i)) Q) : KeepsInv P md l Q I i o := by
  intro L a w h1 h2 h3
  obtain ⟨hw, hh⟩ := h L a w h1 h2 h3
  rw [if_pos hw]
  exact hh
theorem keeps_no {P : Program} {md : Region.Mode} {Q : Exit → Act → World → Prop} {l : List Oper} {I : (Nat → Bool) → Act → World → Prop} {i : Nat} {o : Oper}
    (h : ∀ (L : Nat → Bool) (a : Act) (w : World), L i = false → edgesOn md L o.after.toList → I L a w → Region.wanted o (yielded l.toArray a.tmps) = false ∧ I (upd L i) (a.put o.dst undef) w) : KeepsInv P md l Q I i o := by
  intro L a w h1 h2 h3
  obtain ⟨hw, hh⟩ := h L a w h1 h2 h3
  rw [if_neg (by rw [hw]; decide)]
  exact hh
/-- What is in the slots: base: those that no operation of the region writes; P j: what operation j leaves. -/
structure RSlots (T : Nat) (base : Nat → Option Value) (n : Nat) (dst : Nat → Nat) (P : Nat → Value → World → Prop) (W : World) (L : Nat → Bool) (a : Act) (w : World) : Prop where
  size : a.tmps.size = T
  defs : a.defers = []
  bs : ∀ k v, base k = some v → a.tmps[k]? = some v
  bel : Below W.heap.size W w
  sl : ∀ j, j < n → L j = true → ∃ v, a.tmps[dst j]? = some v ∧ P j v w
section
variable {T : Nat} {base : Nat → Option Value} {n : Nat} {dst : Nat → Nat} {P : Nat → Value → World → Prop} {W : World} {L : Nat → Bool} {a : Act} {w w' : World}
theorem RSlots.base_ev (h : RSlots T base n dst P W L a w) (k : Nat) (v : Value) (hk : base k = some v) : a.eval (.tmp k) = v := by simp [Act.eval, h.bs k v hk]
theorem RSlots.get (h : RSlots T base n dst P W L a w) (j d : Nat) (hj : j < n) (hL : L j = true) (hd : dst j = d) : ∃ v, a.eval (.tmp d) = v ∧ P j v w ∧ a.tmps[d]? = some v := by
  subst hd
  obtain ⟨v, h1, h2⟩ := h.sl j hj hL
  exact ⟨v, by simp [Act.eval, h1], h2, h1⟩
theorem RSlots.step (hP : ∀ j v w w', P j v w → Below w.heap.size w w' → P j v w') (hd : ∀ i j, i < n → j < n → j ≠ i → dst j ≠ dst i) (hb : ∀ i, i < n → base (dst i) = none ∧ dst i < T)
    (h : RSlots T base n dst P W L a w) (k : Nat) (hk : k < n) (v : Value) (hbl : Below w.heap.size w w') (hp : P k v w') : RSlots T base n dst P W (upd L k) (a.put (some (dst k)) v) w' := by
  obtain ⟨n1, n2⟩ := hb k hk
  refine ⟨by simp [Act.put, h.size], by simp [Act.put, h.defs], ?_, h.bel.trans (hbl.mono h.bel.size), ?_⟩
  · intro j u hj
    have hne : dst k ≠ j := fun e => by rw [← e, n1] at hj; cases hj
    simp only [Act.put]
    rw [Array.getElem?_setIfInBounds_ne hne]
    exact h.bs j u hj
  · intro j hj hL
    by_cases e : j = k
    · subst e
      exact ⟨v, by simp [Act.put, h.size, n2], hp⟩
    · rw [upd_other L e] at hL
      obtain ⟨v', h1, h2⟩ := h.sl j hj hL
      refine ⟨v', ?_, hP _ _ _ _ h2 hbl⟩
      simp only [Act.put]
      rw [Array.getElem?_setIfInBounds_ne (hd k j hk hj e).symm]
      exact h1
end
theorem wp_call0 {o : Oper} {a : Act} {w : World} {K : Act → World → Prop} {Q : Exit → Act → World → Prop} {f : FuncId} {tys : Array TypeId} (ho : o.op = .call { callee := .value (.func f), args := #[], argTypes := tys }) (hf : (callFunc f #[]).run Try.prog w = .ok (.enter f #[]) w)
    (hK : Calls Try.prog f #[] w fun e w' => ∃ v, e = .returned v ∧ K (a.put o.dst v) w') : o.wp Try.prog a w K Q := by
  obtain ⟨dst, op, ty, pos, after, guard⟩ := o
  subst ho
  have H : (execOp a.eval { dst := dst, op := .call { callee := .value (.func f), args := #[], argTypes := tys }, type := ty, pos := pos, after := after, guard := guard }).run Try.prog w = .ok (.enter f #[]) w := by
    simp only [execOp, resolve, List.map_toArray, List.map_nil]
    go_simp
    try exact hf
  unfold Oper.wp
  rw [H]
  simp only [Oper.upon]
  refine hK.mono ?_
  rintro e w' ⟨v, rfl, hv⟩
  exact hv
theorem wp_call2 {o : Oper} {a : Act} {w : World} {K : Act → World → Prop} {Q : Exit → Act → World → Prop} {f : FuncId} {tys : Array TypeId} {x0 x1 : Operand} {u0 u1 : Value} (ho : o.op = .call { callee := .value (.func f), args := #[x0, x1], argTypes := tys }) (e0 : a.eval x0 = u0) (e1 : a.eval x1 = u1) (hf : (callFunc f #[u0, u1]).run Try.prog w = .ok (.enter f #[u0, u1]) w)
    (hK : Calls Try.prog f #[u0, u1] w fun e w' => ∃ v, e = .returned v ∧ K (a.put o.dst v) w') : o.wp Try.prog a w K Q := by
  obtain ⟨dst, op, ty, pos, after, guard⟩ := o
  subst ho
  have H : (execOp a.eval { dst := dst, op := .call { callee := .value (.func f), args := #[x0, x1], argTypes := tys }, type := ty, pos := pos, after := after, guard := guard }).run Try.prog w = .ok (.enter f #[u0, u1]) w := by
    simp only [execOp, resolve, List.map_toArray, List.map_cons, List.map_nil, e0, e1]
    go_simp
    try exact hf
  unfold Oper.wp
  rw [H]
  simp only [Oper.upon]
  refine hK.mono ?_
  rintro e w' ⟨v, rfl, hv⟩
  exact hv
theorem below_n {B : Nat} (w : World) (n : Nat) : Below B w (w.drewN n) := ⟨rfl, rfl, rfl, Nat.le_refl _, fun _ _ => rfl⟩
end Go.Proofs.Ytdmdmbcapjmnlab
