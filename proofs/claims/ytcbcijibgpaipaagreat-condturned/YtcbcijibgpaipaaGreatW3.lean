/- Worlds in which some blocks alone may have been written; operations over blocks of cells, one step each; regions of the text's order with guards. -/
import Derived.Test.YtcbcijibgpaipaaGreatMH
namespace Go.Proofs.YtcbcijibgpaipaaGreat
open Go.ChangeShapes Go.WideShapes Go.ChangeAt Go.RowKit
open Tn (iv)
set_option linter.unusedVariables false
set_option linter.unusedSimpArgs false

/-- The blocks of S alone may have been written, beside new ones. -/
structure GrL (S : List Nat) (w w' : World) : Prop where
  size : w.heap.size ≤ w'.heap.size
  block : ∀ r, r < w.heap.size → r ∉ S → w'.heap[r]? = w.heap[r]?
  gr : ∀ w0, Gr w0 w → (∀ p ∈ S, w0.heap.size ≤ p) → Gr w0 w'
theorem GrL.refl (S : List Nat) (w : World) : GrL S w w := ⟨Nat.le_refl _, fun _ _ _ => rfl, fun _ h _ => h⟩
theorem GrL.of {S : List Nat} {w w' : World} (g : Gr w w') : GrL S w w' := ⟨g.below.size, fun r h _ => g.below.block r h, fun w0 h _ => h.trans g⟩
theorem GrL.ofx {S : List Nat} {w w' : World} {p : Nat} (hp : p ∈ S) (g : GrX p w w') : GrL S w w' :=
  ⟨g.size, fun r h hr => g.block r h (fun e => hr (e ▸ hp)), fun w0 h hs => g.gr w0 h (hs p hp)⟩
theorem GrL.app {S R : List Nat} {w W W' : World} (h : GrL S w W) (k : GrL R W W') (hr : ∀ r ∈ R, r ∈ S ∨ w.heap.size ≤ r) : GrL S w W' := by
  refine ⟨Nat.le_trans h.size k.size, fun r h1 h2 => ?_, fun w0 g hs => ?_⟩
  · refine (k.block r (Nat.lt_of_lt_of_le h1 h.size) fun hR => ?_).trans (h.block r h1 h2)
    rcases hr r hR with h3 | h3
    · exact h2 h3
    · omega
  · refine k.gr w0 (h.gr w0 g hs) fun r hR => ?_
    rcases hr r hR with h3 | h3
    · exact hs r h3
    · exact Nat.le_trans g.below.size h3
theorem GrL.gr0 {w w' : World} (h : GrL [] w w') : Gr w w' := h.gr w (Gr.refl w) (fun p hp => absurd hp (by simp))
theorem GrL.then {S : List Nat} {w W W' : World} (h : GrL S w W) (k : Gr W W') : GrL S w W' := h.app (GrL.of (S := []) k) (fun r hr => absurd hr (by simp))
theorem GrL.thenx {S : List Nat} {w W W' : World} {p : Nat} (h : GrL S w W) (k : GrX p W W') (hp : p ∈ S ∨ w.heap.size ≤ p) : GrL S w W' :=
  h.app (GrL.ofx (S := [p]) (by simp) k) (fun r hr => by simp at hr; subst hr; exact hp)
theorem r0 {S : List Nat} {n : Nat} : ∀ r ∈ ([] : List Nat), r ∈ S ∨ n ≤ r := fun r hr => absurd hr (by simp)
theorem r1 {S : List Nat} {n a : Nat} (ha : a ∈ S ∨ n ≤ a) : ∀ r ∈ [a], r ∈ S ∨ n ≤ r := fun r hr => by simp at hr; subst hr; exact ha
theorem r2 {S : List Nat} {n a b : Nat} (ha : a ∈ S ∨ n ≤ a) (hb : b ∈ S ∨ n ≤ b) : ∀ r ∈ [a, b], r ∈ S ∨ n ≤ r := fun r hr => by
  simp at hr
  rcases hr with rfl | rfl
  · exact ha
  · exact hb
theorem n0 {b : Nat} : b ∉ ([] : List Nat) := by simp
theorem n1 {b p : Nat} (h : b ≠ p) : b ∉ [p] := by simpa using h
theorem n2 {b p q : Nat} (h : b ≠ p) (k : b ≠ q) : b ∉ [p, q] := by simp [h, k]
theorem m1 {p : Nat} : p ∈ [p] := by simp
theorem m21 {p q : Nat} : p ∈ [p, q] := by simp
theorem m22 {p q : Nat} : q ∈ [p, q] := by simp
theorem AtA.grl {w w' : World} {b : Nat} {S : List Nat} {c : Array Value} {t : TypeId} (h : AtA w b c t) (g : GrL S w w') (hb : b ∉ S) : AtA w' b c t := (g.block b h.lt hb).trans h

section
variable {P : Program} {ops : Array Oper} {Q : Exit → Act → World → Prop}
/-- One behind the other, guarded or not. -/
def seqG (P : Program) (ops : Array Oper) (Q : Exit → Act → World → Prop) : List Oper → Act → World → Prop
  | [], a, w => Q .normal a w
  | o :: t, a, w => if Region.wanted o (yielded ops a.tmps) then o.wp P a w (seqG P ops Q t) Q else seqG P ops Q t (a.put o.dst undef) w
theorem wpOps_of_seqG : ∀ (l : List Oper) (k : Nat) (a : Act) (w : World), (∀ j, l[j]? = ops[k + j]?) → seqG P ops Q l a w → wpOps P ops Q (List.range' k l.length) a w
  | [], _, a, w, _, h => h
  | o :: l, k, a, w, hl, h => by
    have h0 : ops[k]? = some o := by simpa using (hl 0).symm
    have hl' : ∀ j, l[j]? = ops[k + 1 + j]? := fun j => by have := hl (j + 1); simpa [Nat.add_assoc, Nat.add_comm 1 j] using this
    rw [List.length_cons, List.range'_succ]
    unfold wpOps
    simp only [h0]
    unfold seqG at h
    split
    · rename_i hw
      rw [if_pos hw] at h
      exact .inl (Oper.wp_mono (fun a' w' h' => wpOps_of_seqG l (k + 1) a' w' hl' h') h)
    · rename_i hw
      rw [if_neg hw] at h
      exact wpOps_of_seqG l (k + 1) _ w hl' h
theorem wp_region_seqG {id : Nat} {a : Act} {w : World} {l : List Oper} (h : seqG P l.toArray Q l a w) : (Code.region id l.toArray false).wp P Q a w := by
  refine wp_region ?_
  have := wpOps_of_seqG (P := P) (ops := l.toArray) (Q := Q) l 0 a w (by simp) h
  rw [List.range_eq_range']
  simpa using this
theorem g_do {o : Oper} {t : List Oper} {a : Act} {w : World} (hw : Region.wanted o (yielded ops a.tmps) = true) (h : o.wp P a w (seqG P ops Q t) Q) : seqG P ops Q (o :: t) a w := by
  unfold seqG
  rw [if_pos hw]
  exact h
theorem g_skip {o : Oper} {t : List Oper} {a : Act} {w : World} (hw : Region.wanted o (yielded ops a.tmps) = false) (h : seqG P ops Q t (a.put o.dst undef) w) : seqG P ops Q (o :: t) a w := by
  unfold seqG
  rw [if_neg (by rw [hw]; decide)]
  exact h
end
theorem sel_t {α : Type} (x y : α) : sel true x y = x := rfl
theorem sel_of {α : Type} {b : Bool} {x y : α} (h : b = true) : sel b x y = x := by rw [h]; rfl
theorem wanted_of {o : Oper} {l : List Oper} {a : Act} {k : Nat} {b c r : Bool} {p : Oper} {d : Nat} {v : Value} (hg : o.guard = some (k, b)) (hp : l.toArray[k]? = some p) (hd : p.dst = some d) (hv : a.tmps[d]? = some v) (hb : v = .bool c) (hr : (some c == some b) = r) : Region.wanted o (yielded l.toArray a.tmps) = r := by
  subst hb
  unfold Region.wanted yielded
  simp only [hg, hp, hd, hv, Option.bind_some]
  exact hr
/-- What is left of a region of the text's order, shut: nothing is to be run ahead by looking at it. -/
structure SG (P : Program) (ops : Array Oper) (Q : Exit → Act → World → Prop) (l : List Oper) (a : Act) (w : World) : Prop where
  out : seqG P ops Q l a w
section
variable {P : Program} {ops : Array Oper} {Q : Exit → Act → World → Prop} {o : Oper} {t : List Oper} {a : Act} {w : World}
theorem rG {id : Nat} {l : List Oper} (h : SG P l.toArray Q l a w) : (Code.region id l.toArray false).wp P Q a w := wp_region_seqG h.out
theorem s_do (hw : Region.wanted o (yielded ops a.tmps) = true) (h : o.wp P a w (SG P ops Q t) Q) : SG P ops Q (o :: t) a w := ⟨g_do hw (Oper.wp_mono (fun _ _ k => k.out) h)⟩
theorem sF (hg : o.guard = none) (h : o.wp P a w (SG P ops Q t) Q) : SG P ops Q (o :: t) a w := s_do (by unfold Region.wanted; rw [hg]) h
theorem s_skip (hw : Region.wanted o (yielded ops a.tmps) = false) (h : SG P ops Q t (a.put o.dst undef) w) : SG P ops Q (o :: t) a w := ⟨g_skip hw h.out⟩
theorem s_end (h : Q .normal a w) : SG P ops Q [] a w := ⟨h⟩
end
theorem keeps_yes {P : Program} {md : Region.Mode} {Q : Exit → Act → World → Prop} {l : List Oper} {I : (Nat → Bool) → Act → World → Prop} {i : Nat} {o : Oper}
    (h : ∀ (L : Nat → Bool) (a : Act) (w : World), L i = false → edgesOn md L o.after.toList → I L a w → Region.wanted o (yielded l.toArray a.tmps) = true ∧ o.wp P a w (I (upd L i)) Q) : KeepsInv P md l Q I i o := by
  intro L a w h1 h2 h3
  obtain ⟨hw, hh⟩ := h L a w h1 h2 h3
  rw [if_pos hw]
  exact hh
theorem keeps_no {P : Program} {md : Region.Mode} {Q : Exit → Act → World → Prop} {l : List Oper} {I : (Nat → Bool) → Act → World → Prop} {i : Nat} {o : Oper}
    (h : ∀ (L : Nat → Bool) (a : Act) (w : World), L i = false → edgesOn md L o.after.toList → I L a w → Region.wanted o (yielded l.toArray a.tmps) = false ∧ I (upd L i) (a.put o.dst undef) w) : KeepsInv P md l Q I i o := by
  intro L a w h1 h2 h3
  obtain ⟨hw, hh⟩ := h L a w h1 h2 h3
  rw [if_neg (by rw [hw]; decide)]
  exact hh
theorem wp_ld_bool {o : Oper} {a : Act} {w : World} {K : Act → World → Prop} {Q : Exit → Act → World → Prop} {p : Operand} {b o0 : Nat} {cs : Array Value} {t : TypeId} {v : Value} (ho : o.op = .load 4 p) (hp : a.eval p = .pointer (some ⟨b, o0, none⟩)) (h : AtA w b cs t) (h0 : cs[o0]? = some v)
    (hK : K (a.put o.dst v) w) : o.wp Tryz.prog a w K Q := by
  obtain ⟨dst, op, ty, pos, after, guard⟩ := o
  subst ho
  have d0 := (h.cell o0).trans h0
  unfold Oper.wp
  simp only [execOp, hp]
  go_simp
  exact hK
theorem wp_ld_uint64 {o : Oper} {a : Act} {w : World} {K : Act → World → Prop} {Q : Exit → Act → World → Prop} {p : Operand} {b o0 : Nat} {cs : Array Value} {t : TypeId} {v : Value} (ho : o.op = .load 22 p) (hp : a.eval p = .pointer (some ⟨b, o0, none⟩)) (h : AtA w b cs t) (h0 : cs[o0]? = some v)
    (hK : K (a.put o.dst v) w) : o.wp Tryz.prog a w K Q := by
  obtain ⟨dst, op, ty, pos, after, guard⟩ := o
  subst ho
  have d0 := (h.cell o0).trans h0
  unfold Oper.wp
  simp only [execOp, hp]
  go_simp
  exact hK
theorem wp_ld_tell {o : Oper} {a : Act} {w : World} {K : Act → World → Prop} {Q : Exit → Act → World → Prop} {p : Operand} {b o0 : Nat} {cs : Array Value} {t : TypeId} {v : Value} (ho : o.op = .load 102 p) (hp : a.eval p = .pointer (some ⟨b, o0, none⟩)) (h : AtA w b cs t) (h0 : cs[o0]? = some v)
    (hK : K (a.put o.dst v) w) : o.wp Tryz.prog a w K Q := by
  obtain ⟨dst, op, ty, pos, after, guard⟩ := o
  subst ho
  have d0 := (h.cell o0).trans h0
  unfold Oper.wp
  simp only [execOp, hp]
  go_simp
  exact hK
theorem wp_ld_order {o : Oper} {a : Act} {w : World} {K : Act → World → Prop} {Q : Exit → Act → World → Prop} {p : Operand} {b o0 : Nat} {cs : Array Value} {t : TypeId} {v : Value} (ho : o.op = .load 186 p) (hp : a.eval p = .pointer (some ⟨b, o0, none⟩)) (h : AtA w b cs t) (h0 : cs[o0]? = some v)
    (hK : K (a.put o.dst v) w) : o.wp Tryz.prog a w K Q := by
  obtain ⟨dst, op, ty, pos, after, guard⟩ := o
  subst ho
  have d0 := (h.cell o0).trans h0
  unfold Oper.wp
  simp only [execOp, hp]
  go_simp
  exact hK
theorem wp_sc_uint64 {o : Oper} {a : Act} {w : World} {K : Act → World → Prop} {Q : Exit → Act → World → Prop} {p x : Operand} {b o0 : Nat} {cs : Array Value} {t : TypeId} {c0 : Value} {n : Int} (ho : o.op = .store 22 p x) (hp : a.eval p = .pointer (some ⟨b, o0, none⟩)) (hx : a.eval x = .int .u64 n) (h : AtA w b cs t) (h0 : cs[o0]? = some c0)
    (hK : ∀ w', AtA w' b (cs.setIfInBounds o0 (.int .u64 n)) t → GrX b w w' → K (a.put o.dst undef) w') : o.wp Tryz.prog a w K Q := by
  obtain ⟨dst, op, ty, pos, after, guard⟩ := o
  subst ho
  have d0 := (h.cell o0).trans h0
  have f0 := h.f o0
  have H := hK _ (h.st o0 (.int .u64 n)) (GrX.set o0 (.int .u64 n))
  unfold Oper.wp
  simp only [execOp, hp, hx]
  go_simp
  exact H
theorem wp_sc_int64 {o : Oper} {a : Act} {w : World} {K : Act → World → Prop} {Q : Exit → Act → World → Prop} {p x : Operand} {b o0 : Nat} {cs : Array Value} {t : TypeId} {c0 : Value} {n : Int} (ho : o.op = .store 2 p x) (hp : a.eval p = .pointer (some ⟨b, o0, none⟩)) (hx : a.eval x = .int .i64 n) (h : AtA w b cs t) (h0 : cs[o0]? = some c0)
    (hK : ∀ w', AtA w' b (cs.setIfInBounds o0 (.int .i64 n)) t → GrX b w w' → K (a.put o.dst undef) w') : o.wp Tryz.prog a w K Q := by
  obtain ⟨dst, op, ty, pos, after, guard⟩ := o
  subst ho
  have d0 := (h.cell o0).trans h0
  have f0 := h.f o0
  have H := hK _ (h.st o0 (.int .i64 n)) (GrX.set o0 (.int .i64 n))
  unfold Oper.wp
  simp only [execOp, hp, hx]
  go_simp
  exact H
theorem wp_sc_order {o : Oper} {a : Act} {w : World} {K : Act → World → Prop} {Q : Exit → Act → World → Prop} {p x : Operand} {b o0 : Nat} {cs : Array Value} {t : TypeId} {c0 : Value} {f : Fn} {m cp : Array Value} (ho : o.op = .store 186 p x) (hp : a.eval p = .pointer (some ⟨b, o0, none⟩)) (hx : a.eval x = .func f m cp) (h : AtA w b cs t) (h0 : cs[o0]? = some c0)
    (hK : ∀ w', AtA w' b (cs.setIfInBounds o0 (.func f m cp)) t → GrX b w w' → K (a.put o.dst undef) w') : o.wp Tryz.prog a w K Q := by
  obtain ⟨dst, op, ty, pos, after, guard⟩ := o
  subst ho
  have d0 := (h.cell o0).trans h0
  have f0 := h.f o0
  have H := hK _ (h.st o0 (.func f m cp)) (GrX.set o0 (.func f m cp))
  unfold Oper.wp
  simp only [execOp, hp, hx]
  go_simp
  exact H
theorem wp_al_S {o : Oper} {a : Act} {w : World} {K : Act → World → Prop} {Q : Exit → Act → World → Prop} (ho : o.op = .alloc 26)
    (hK : ∀ w', AtA w' w.heap.size #[.int .u64 0, .int .u64 0] 26 → Gr w w' → K (a.put o.dst (.pointer (some ⟨w.heap.size, 0, none⟩))) w') : o.wp Tryz.prog a w K Q := by
  obtain ⟨dst, op, ty, pos, after, guard⟩ := o
  subst ho
  have H := hK _ (AtA.newb w rfl #[.int .u64 0, .int .u64 0] 26) (Gr.alloc (Gr.refl w) _ _)
  unfold Oper.wp
  simp only [execOp]
  go_simp
  exact H
theorem wp_al_R {o : Oper} {a : Act} {w : World} {K : Act → World → Prop} {Q : Exit → Act → World → Prop} (ho : o.op = .alloc 28)
    (hK : ∀ w', AtA w' w.heap.size #[.int .i64 0, .int .i64 0] 28 → Gr w w' → K (a.put o.dst (.pointer (some ⟨w.heap.size, 0, none⟩))) w') : o.wp Tryz.prog a w K Q := by
  obtain ⟨dst, op, ty, pos, after, guard⟩ := o
  subst ho
  have H := hK _ (AtA.newb w rfl #[.int .i64 0, .int .i64 0] 28) (Gr.alloc (Gr.refl w) _ _)
  unfold Oper.wp
  simp only [execOp]
  go_simp
  exact H
theorem wp_al_order {o : Oper} {a : Act} {w : World} {K : Act → World → Prop} {Q : Exit → Act → World → Prop} (ho : o.op = .alloc 186)
    (hK : ∀ w', AtA w' w.heap.size #[.nilFunc] 186 → Gr w w' → K (a.put o.dst (.pointer (some ⟨w.heap.size, 0, none⟩))) w') : o.wp Tryz.prog a w K Q := by
  obtain ⟨dst, op, ty, pos, after, guard⟩ := o
  subst ho
  have H := hK _ (AtA.newb w rfl #[.nilFunc] 186) (Gr.alloc (Gr.refl w) _ _)
  unfold Oper.wp
  simp only [execOp]
  go_simp
  exact H
theorem wp_bx_B {o : Oper} {a : Act} {w : World} {K : Act → World → Prop} {Q : Exit → Act → World → Prop} {x : Operand} {d : Bd} (ho : o.op = .box 30 x) (hx : a.eval x = .agg (bv d))
    (hK : ∀ w', AtA w' w.heap.size (bv d) 30 → Gr w w' → K (a.put o.dst (.pointer (some ⟨w.heap.size, 0, none⟩))) w') : o.wp Tryz.prog a w K Q := by
  obtain ⟨dst, op, ty, pos, after, guard⟩ := o
  subst ho
  have H := hK _ (AtA.newb w rfl (bv d) 30) (Gr.alloc (Gr.refl w) _ _)
  unfold Oper.wp
  simp only [execOp, hx]
  go_simp
  exact H
theorem wp_bx_T {o : Oper} {a : Act} {w : World} {K : Act → World → Prop} {Q : Exit → Act → World → Prop} {x : Operand} {n m : Int} (ho : o.op = .box 24 x) (hx : a.eval x = .agg #[.int .u64 n, .int .u64 m])
    (hK : ∀ w', AtA w' w.heap.size (#[.int .u64 n, .int .u64 m]) 24 → Gr w w' → K (a.put o.dst (.pointer (some ⟨w.heap.size, 0, none⟩))) w') : o.wp Tryz.prog a w K Q := by
  obtain ⟨dst, op, ty, pos, after, guard⟩ := o
  subst ho
  have H := hK _ (AtA.newb w rfl (#[.int .u64 n, .int .u64 m]) 24) (Gr.alloc (Gr.refl w) _ _)
  unfold Oper.wp
  simp only [execOp, hx]
  go_simp
  exact H
theorem wp_bx_bool {o : Oper} {a : Act} {w : World} {K : Act → World → Prop} {Q : Exit → Act → World → Prop} {x : Operand} {c : Bool} (ho : o.op = .box 4 x) (hx : a.eval x = .bool c)
    (hK : ∀ w', AtA w' w.heap.size (#[.bool c]) 4 → Gr w w' → K (a.put o.dst (.pointer (some ⟨w.heap.size, 0, none⟩))) w') : o.wp Tryz.prog a w K Q := by
  obtain ⟨dst, op, ty, pos, after, guard⟩ := o
  subst ho
  have H := hK _ (AtA.newb w rfl (#[.bool c]) 4) (Gr.alloc (Gr.refl w) _ _)
  unfold Oper.wp
  simp only [execOp, hx]
  go_simp
  exact H
theorem wp_bx_uint8 {o : Oper} {a : Act} {w : World} {K : Act → World → Prop} {Q : Exit → Act → World → Prop} {x : Operand} {n : Int} (ho : o.op = .box 5 x) (hx : a.eval x = .int .u8 n)
    (hK : ∀ w', AtA w' w.heap.size (#[.int .u8 n]) 5 → Gr w w' → K (a.put o.dst (.pointer (some ⟨w.heap.size, 0, none⟩))) w') : o.wp Tryz.prog a w K Q := by
  obtain ⟨dst, op, ty, pos, after, guard⟩ := o
  subst ho
  have H := hK _ (AtA.newb w rfl (#[.int .u8 n]) 5) (Gr.alloc (Gr.refl w) _ _)
  unfold Oper.wp
  simp only [execOp, hx]
  go_simp
  exact H
theorem wp_storeU {c0 c1 : Value} {n0 n1 : Int} {o : Oper} {a : Act} {w : World} {K : Act → World → Prop} {Q : Exit → Act → World → Prop} {p x : Operand} {b : Nat} (ho : o.op = .store 26 p x) (hp : a.eval p = .pointer (some ⟨b, 0, none⟩)) (hx : a.eval x = .agg #[.int .u64 n0, .int .u64 n1]) (h : AtA w b #[c0, c1] 26)
    (hK : ∀ w', AtA w' b #[.int .u64 n0, .int .u64 n1] 26 → GrX b w w' → K (a.put o.dst undef) w') : o.wp Tryz.prog a w K Q :=
  wp_store_span ho hp hx h rfl rfl hK
theorem wp_storeS {c0 c1 : Value} {n0 n1 : Int} {o : Oper} {a : Act} {w : World} {K : Act → World → Prop} {Q : Exit → Act → World → Prop} {p x : Operand} {b : Nat} (ho : o.op = .store 28 p x) (hp : a.eval p = .pointer (some ⟨b, 0, none⟩)) (hx : a.eval x = .agg #[.int .i64 n0, .int .i64 n1]) (h : AtA w b #[c0, c1] 28)
    (hK : ∀ w', AtA w' b #[.int .i64 n0, .int .i64 n1] 28 → GrX b w w' → K (a.put o.dst undef) w') : o.wp Tryz.prog a w K Q :=
  wp_store_reach ho hp hx h rfl rfl hK
theorem wp_pickT {o : Oper} {a : Act} {w : World} {K : Act → World → Prop} {Q : Exit → Act → World → Prop} {x y z : Operand} {v : Value} (ho : o.op = .pick x y z) (h0 : a.eval x = .bool true) (h1 : a.eval y = v) (hK : K (a.put o.dst (v)) w) : o.wp Tryz.prog a w K Q := by
  obtain ⟨dst, op, ty, pos, after, guard⟩ := o
  subst ho
  unfold Oper.wp
  simp only [execOp, h0, h1]
  go_simp
  exact hK
theorem wp_pickF {o : Oper} {a : Act} {w : World} {K : Act → World → Prop} {Q : Exit → Act → World → Prop} {x y z : Operand} {v : Value} (ho : o.op = .pick x y z) (h0 : a.eval x = .bool false) (h1 : a.eval z = v) (hK : K (a.put o.dst (v)) w) : o.wp Tryz.prog a w K Q := by
  obtain ⟨dst, op, ty, pos, after, guard⟩ := o
  subst ho
  unfold Oper.wp
  simp only [execOp, h0, h1]
  go_simp
  exact hK
theorem wp_notT {o : Oper} {a : Act} {w : World} {K : Act → World → Prop} {Q : Exit → Act → World → Prop} {x : Operand} (ho : o.op = .unOp .not 4 x) (h0 : a.eval x = .bool true) (hK : K (a.put o.dst (.bool false)) w) : o.wp Tryz.prog a w K Q := by
  obtain ⟨dst, op, ty, pos, after, guard⟩ := o
  subst ho
  unfold Oper.wp
  simp only [execOp, h0]
  go_simp
  exact hK
theorem wp_notF {o : Oper} {a : Act} {w : World} {K : Act → World → Prop} {Q : Exit → Act → World → Prop} {x : Operand} (ho : o.op = .unOp .not 4 x) (h0 : a.eval x = .bool false) (hK : K (a.put o.dst (.bool true)) w) : o.wp Tryz.prog a w K Q := by
  obtain ⟨dst, op, ty, pos, after, guard⟩ := o
  subst ho
  unfold Oper.wp
  simp only [execOp, h0]
  go_simp
  exact hK
theorem wp_fT0 {o : Oper} {a : Act} {w : World} {K : Act → World → Prop} {Q : Exit → Act → World → Prop} {x : Operand} {b o0 : Nat} (ho : o.op = .fieldAddr 24 x 0) (h0 : a.eval x = .pointer (some ⟨b, o0, none⟩)) (hK : K (a.put o.dst (.pointer (some ⟨b, o0 + 0, none⟩))) w) : o.wp Tryz.prog a w K Q := by
  obtain ⟨dst, op, ty, pos, after, guard⟩ := o
  subst ho
  unfold Oper.wp
  simp only [execOp, h0]
  go_simp
  exact hK
theorem wp_fT1 {o : Oper} {a : Act} {w : World} {K : Act → World → Prop} {Q : Exit → Act → World → Prop} {x : Operand} {b o0 : Nat} (ho : o.op = .fieldAddr 24 x 1) (h0 : a.eval x = .pointer (some ⟨b, o0, none⟩)) (hK : K (a.put o.dst (.pointer (some ⟨b, o0 + 1, none⟩))) w) : o.wp Tryz.prog a w K Q := by
  obtain ⟨dst, op, ty, pos, after, guard⟩ := o
  subst ho
  unfold Oper.wp
  simp only [execOp, h0]
  go_simp
  exact hK
theorem wp_fU0 {o : Oper} {a : Act} {w : World} {K : Act → World → Prop} {Q : Exit → Act → World → Prop} {x : Operand} {b o0 : Nat} (ho : o.op = .fieldAddr 26 x 0) (h0 : a.eval x = .pointer (some ⟨b, o0, none⟩)) (hK : K (a.put o.dst (.pointer (some ⟨b, o0 + 0, none⟩))) w) : o.wp Tryz.prog a w K Q := by
  obtain ⟨dst, op, ty, pos, after, guard⟩ := o
  subst ho
  unfold Oper.wp
  simp only [execOp, h0]
  go_simp
  exact hK
theorem wp_fU1 {o : Oper} {a : Act} {w : World} {K : Act → World → Prop} {Q : Exit → Act → World → Prop} {x : Operand} {b o0 : Nat} (ho : o.op = .fieldAddr 26 x 1) (h0 : a.eval x = .pointer (some ⟨b, o0, none⟩)) (hK : K (a.put o.dst (.pointer (some ⟨b, o0 + 1, none⟩))) w) : o.wp Tryz.prog a w K Q := by
  obtain ⟨dst, op, ty, pos, after, guard⟩ := o
  subst ho
  unfold Oper.wp
  simp only [execOp, h0]
  go_simp
  exact hK
theorem wp_fS0 {o : Oper} {a : Act} {w : World} {K : Act → World → Prop} {Q : Exit → Act → World → Prop} {x : Operand} {b o0 : Nat} (ho : o.op = .fieldAddr 28 x 0) (h0 : a.eval x = .pointer (some ⟨b, o0, none⟩)) (hK : K (a.put o.dst (.pointer (some ⟨b, o0 + 0, none⟩))) w) : o.wp Tryz.prog a w K Q := by
  obtain ⟨dst, op, ty, pos, after, guard⟩ := o
  subst ho
  unfold Oper.wp
  simp only [execOp, h0]
  go_simp
  exact hK
theorem wp_fS1 {o : Oper} {a : Act} {w : World} {K : Act → World → Prop} {Q : Exit → Act → World → Prop} {x : Operand} {b o0 : Nat} (ho : o.op = .fieldAddr 28 x 1) (h0 : a.eval x = .pointer (some ⟨b, o0, none⟩)) (hK : K (a.put o.dst (.pointer (some ⟨b, o0 + 1, none⟩))) w) : o.wp Tryz.prog a w K Q := by
  obtain ⟨dst, op, ty, pos, after, guard⟩ := o
  subst ho
  unfold Oper.wp
  simp only [execOp, h0]
  go_simp
  exact hK
end Go.Proofs.YtcbcijibgpaipaaGreat
