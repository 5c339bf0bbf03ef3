/- Towards the statements of packages bound and cond: operations as one step each, over blocks of cells. -/
import Derived.Test.YtekenpgagfmgkaaGreatRI
namespace Go.Proofs.YtekenpgagfmgkaaGreat
open Go.ChangeShapes Go.WideShapes Go.ChangeAt Go.RowKit
set_option linter.unusedVariables false
set_option linter.unusedSimpArgs false

theorem wp_load_bound {o : Oper} {a : Act} {w : World} {K : Act → World → Prop} {Q : Exit → Act → World → Prop} {p : Operand} {b : Nat} {c0 c1 c2 c3 c4 c5 c6 c7 c8 c9 : Value} (ho : o.op = .load 30 p) (hp : a.eval p = .pointer (some ⟨b, 0, none⟩)) (h : AtA w b #[c0, c1, c2, c3, c4, c5, c6, c7, c8, c9] 30)
    (hK : K (a.put o.dst (.agg #[c0, c1, c2, c3, c4, c5, c6, c7, c8, c9])) w) : o.wp Tryz.prog a w K Q := by
  obtain ⟨dst, op, ty, pos, after, guard⟩ := o
  subst ho
  have d0 := h.cell 0
  have d1 := h.cell 1
  have d2 := h.cell 2
  have d3 := h.cell 3
  have d4 := h.cell 4
  have d5 := h.cell 5
  have d6 := h.cell 6
  have d7 := h.cell 7
  have d8 := h.cell 8
  have d9 := h.cell 9
  simp only [List.getElem?_toArray, List.getElem?_cons_zero, List.getElem?_cons_succ] at d0 d1 d2 d3 d4 d5 d6 d7 d8 d9
  unfold Oper.wp
  simp only [execOp, hp]
  go_simp
  exact hK
theorem wp_load_about {o : Oper} {a : Act} {w : World} {K : Act → World → Prop} {Q : Exit → Act → World → Prop} {p : Operand} {b : Nat} {c0 c1 c2 c3 c4 c5 c6 : Value} (ho : o.op = .load 43 p) (hp : a.eval p = .pointer (some ⟨b, 0, none⟩)) (h : AtA w b #[c0, c1, c2, c3, c4, c5, c6] 43)
    (hK : K (a.put o.dst (.agg #[c0, c1, c2, c3, c4, c5, c6])) w) : o.wp Tryz.prog a w K Q := by
  obtain ⟨dst, op, ty, pos, after, guard⟩ := o
  subst ho
  have d0 := h.cell 0
  have d1 := h.cell 1
  have d2 := h.cell 2
  have d3 := h.cell 3
  have d4 := h.cell 4
  have d5 := h.cell 5
  have d6 := h.cell 6
  simp only [List.getElem?_toArray, List.getElem?_cons_zero, List.getElem?_cons_succ] at d0 d1 d2 d3 d4 d5 d6
  unfold Oper.wp
  simp only [execOp, hp]
  go_simp
  exact hK
theorem wp_load_tnum {o : Oper} {a : Act} {w : World} {K : Act → World → Prop} {Q : Exit → Act → World → Prop} {p : Operand} {b o0 : Nat} {cs : Array Value} {t : TypeId} {c0 c1 : Value} (ho : o.op = .load 24 p) (hp : a.eval p = .pointer (some ⟨b, o0, none⟩)) (h : AtA w b cs t) (h0 : cs[o0]? = some c0) (h1 : cs[o0 + 1]? = some c1)
    (hK : K (a.put o.dst (.agg #[c0, c1])) w) : o.wp Tryz.prog a w K Q := by
  obtain ⟨dst, op, ty, pos, after, guard⟩ := o
  subst ho
  have d0 := (h.cell (o0)).trans h0
  have d1 := (h.cell (o0 + 1)).trans h1
  unfold Oper.wp
  simp only [execOp, hp]
  go_simp
  exact hK
theorem wp_load_span {o : Oper} {a : Act} {w : World} {K : Act → World → Prop} {Q : Exit → Act → World → Prop} {p : Operand} {b o0 : Nat} {cs : Array Value} {t : TypeId} {c0 c1 : Value} (ho : o.op = .load 26 p) (hp : a.eval p = .pointer (some ⟨b, o0, none⟩)) (h : AtA w b cs t) (h0 : cs[o0]? = some c0) (h1 : cs[o0 + 1]? = some c1)
    (hK : K (a.put o.dst (.agg #[c0, c1])) w) : o.wp Tryz.prog a w K Q := by
  obtain ⟨dst, op, ty, pos, after, guard⟩ := o
  subst ho
  have d0 := (h.cell (o0)).trans h0
  have d1 := (h.cell (o0 + 1)).trans h1
  unfold Oper.wp
  simp only [execOp, hp]
  go_simp
  exact hK
theorem wp_load_reach {o : Oper} {a : Act} {w : World} {K : Act → World → Prop} {Q : Exit → Act → World → Prop} {p : Operand} {b o0 : Nat} {cs : Array Value} {t : TypeId} {c0 c1 : Value} (ho : o.op = .load 28 p) (hp : a.eval p = .pointer (some ⟨b, o0, none⟩)) (h : AtA w b cs t) (h0 : cs[o0]? = some c0) (h1 : cs[o0 + 1]? = some c1)
    (hK : K (a.put o.dst (.agg #[c0, c1])) w) : o.wp Tryz.prog a w K Q := by
  obtain ⟨dst, op, ty, pos, after, guard⟩ := o
  subst ho
  have d0 := (h.cell (o0)).trans h0
  have d1 := (h.cell (o0 + 1)).trans h1
  unfold Oper.wp
  simp only [execOp, hp]
  go_simp
  exact hK
theorem wp_load_u64 {o : Oper} {a : Act} {w : World} {K : Act → World → Prop} {Q : Exit → Act → World → Prop} {p : Operand} {b o0 : Nat} {cs : Array Value} {t : TypeId} {v : Value} (ho : o.op = .load 22 p) (hp : a.eval p = .pointer (some ⟨b, o0, none⟩)) (h : AtA w b cs t) (h0 : cs[o0]? = some v)
    (hK : K (a.put o.dst v) w) : o.wp Tryz.prog a w K Q := by
  obtain ⟨dst, op, ty, pos, after, guard⟩ := o
  subst ho
  have d0 := (h.cell o0).trans h0
  unfold Oper.wp
  simp only [execOp, hp]
  go_simp
  exact hK
theorem wp_alloc_bound {o : Oper} {a : Act} {w : World} {K : Act → World → Prop} {Q : Exit → Act → World → Prop} (ho : o.op = .alloc 30)
    (hK : K (a.put o.dst (.pointer (some ⟨w.heap.size, 0, none⟩))) (w.alloc (.cells #[.int .u64 0, .int .u64 0, .int .u64 0, .int .u64 0, .int .i64 0, .int .i64 0, .int .u64 0, .int .u64 0, .int .i64 0, .int .i64 0] 30))) : o.wp Tryz.prog a w K Q := by
  obtain ⟨dst, op, ty, pos, after, guard⟩ := o
  subst ho
  unfold Oper.wp
  simp only [execOp]
  go_simp
  exact hK
theorem wp_alloc_tnum {o : Oper} {a : Act} {w : World} {K : Act → World → Prop} {Q : Exit → Act → World → Prop} (ho : o.op = .alloc 24)
    (hK : K (a.put o.dst (.pointer (some ⟨w.heap.size, 0, none⟩))) (w.alloc (.cells #[.int .u64 0, .int .u64 0] 24))) : o.wp Tryz.prog a w K Q := by
  obtain ⟨dst, op, ty, pos, after, guard⟩ := o
  subst ho
  unfold Oper.wp
  simp only [execOp]
  go_simp
  exact hK
theorem wp_alloc_span {o : Oper} {a : Act} {w : World} {K : Act → World → Prop} {Q : Exit → Act → World → Prop} (ho : o.op = .alloc 26)
    (hK : K (a.put o.dst (.pointer (some ⟨w.heap.size, 0, none⟩))) (w.alloc (.cells #[.int .u64 0, .int .u64 0] 26))) : o.wp Tryz.prog a w K Q := by
  obtain ⟨dst, op, ty, pos, after, guard⟩ := o
  subst ho
  unfold Oper.wp
  simp only [execOp]
  go_simp
  exact hK
theorem wp_alloc_reach {o : Oper} {a : Act} {w : World} {K : Act → World → Prop} {Q : Exit → Act → World → Prop} (ho : o.op = .alloc 28)
    (hK : K (a.put o.dst (.pointer (some ⟨w.heap.size, 0, none⟩))) (w.alloc (.cells #[.int .i64 0, .int .i64 0] 28))) : o.wp Tryz.prog a w K Q := by
  obtain ⟨dst, op, ty, pos, after, guard⟩ := o
  subst ho
  unfold Oper.wp
  simp only [execOp]
  go_simp
  exact hK
theorem set_all {w : World} {b : Nat} {c0 c1 c2 c3 c4 c5 c6 c7 c8 c9 : Value} {t : TypeId} (h : AtA w b #[c0, c1, c2, c3, c4, c5, c6, c7, c8, c9] t) (n0 n1 n2 n3 n4 n5 n6 n7 n8 n9 : Int) : AtA ((((((((((w.setCell ⟨b, 0, none⟩ (.int .u64 n0)).setCell ⟨b, 1, none⟩ (.int .u64 n1)).setCell ⟨b, 2, none⟩ (.int .u64 n2)).setCell ⟨b, 3, none⟩ (.int .u64 n3)).setCell ⟨b, 4, none⟩ (.int .i64 n4)).setCell ⟨b, 5, none⟩ (.int .i64 n5)).setCell ⟨b, 6, none⟩ (.int .u64 n6)).setCell ⟨b, 7, none⟩ (.int .u64 n7)).setCell ⟨b, 8, none⟩ (.int .i64 n8)).setCell ⟨b, 9, none⟩ (.int .i64 n9)) b #[(.int .u64 n0), (.int .u64 n1), (.int .u64 n2), (.int .u64 n3), (.int .i64 n4), (.int .i64 n5), (.int .u64 n6), (.int .u64 n7), (.int .i64 n8), (.int .i64 n9)] t := by
  have k := ((((((((((h.st 0 (.int .u64 n0)).st 1 (.int .u64 n1)).st 2 (.int .u64 n2)).st 3 (.int .u64 n3)).st 4 (.int .i64 n4)).st 5 (.int .i64 n5)).st 6 (.int .u64 n6)).st 7 (.int .u64 n7)).st 8 (.int .i64 n8)).st 9 (.int .i64 n9))
  simp only [List.setIfInBounds_toArray, List.set_cons_zero, List.set_cons_succ] at k
  exact k
theorem set_allx (w : World) (b : Nat) (n0 n1 n2 n3 n4 n5 n6 n7 n8 n9 : Int) : GrX b w ((((((((((w.setCell ⟨b, 0, none⟩ (.int .u64 n0)).setCell ⟨b, 1, none⟩ (.int .u64 n1)).setCell ⟨b, 2, none⟩ (.int .u64 n2)).setCell ⟨b, 3, none⟩ (.int .u64 n3)).setCell ⟨b, 4, none⟩ (.int .i64 n4)).setCell ⟨b, 5, none⟩ (.int .i64 n5)).setCell ⟨b, 6, none⟩ (.int .u64 n6)).setCell ⟨b, 7, none⟩ (.int .u64 n7)).setCell ⟨b, 8, none⟩ (.int .i64 n8)).setCell ⟨b, 9, none⟩ (.int .i64 n9)) := (GrX.trans ((GrX.trans ((GrX.trans ((GrX.trans ((GrX.trans ((GrX.trans ((GrX.trans ((GrX.trans ((GrX.trans ((GrX.trans (GrX.refl b w) (GrX.set 0 (.int .u64 n0)))) (GrX.set 1 (.int .u64 n1)))) (GrX.set 2 (.int .u64 n2)))) (GrX.set 3 (.int .u64 n3)))) (GrX.set 4 (.int .i64 n4)))) (GrX.set 5 (.int .i64 n5)))) (GrX.set 6 (.int .u64 n6)))) (GrX.set 7 (.int .u64 n7)))) (GrX.set 8 (.int .i64 n8)))) (GrX.set 9 (.int .i64 n9)))
theorem wp_store_bound {o : Oper} {a : Act} {w : World} {K : Act → World → Prop} {Q : Exit → Act → World → Prop} {p x : Operand} {b : Nat} {c0 c1 c2 c3 c4 c5 c6 c7 c8 c9 : Value} {n0 n1 n2 n3 n4 n5 n6 n7 n8 n9 : Int} (ho : o.op = .store 30 p x) (hp : a.eval p = .pointer (some ⟨b, 0, none⟩)) (hx : a.eval x = .agg #[(.int .u64 n0), (.int .u64 n1), (.int .u64 n2), (.int .u64 n3), (.int .i64 n4), (.int .i64 n5), (.int .u64 n6), (.int .u64 n7), (.int .i64 n8), (.int .i64 n9)]) (h : AtA w b #[c0, c1, c2, c3, c4, c5, c6, c7, c8, c9] 30)
    (hK : ∀ w', AtA w' b #[(.int .u64 n0), (.int .u64 n1), (.int .u64 n2), (.int .u64 n3), (.int .i64 n4), (.int .i64 n5), (.int .u64 n6), (.int .u64 n7), (.int .i64 n8), (.int .i64 n9)] 30 → GrX b w w' → K (a.put o.dst undef) w') : o.wp Tryz.prog a w K Q := by
  obtain ⟨dst, op, ty, pos, after, guard⟩ := o
  subst ho
  have d0 := h.cell 0
  have f0 := h.f 0
  have d1 := h.cell 1
  have f1 := h.f 1
  have d2 := h.cell 2
  have f2 := h.f 2
  have d3 := h.cell 3
  have f3 := h.f 3
  have d4 := h.cell 4
  have f4 := h.f 4
  have d5 := h.cell 5
  have f5 := h.f 5
  have d6 := h.cell 6
  have f6 := h.f 6
  have d7 := h.cell 7
  have f7 := h.f 7
  have d8 := h.cell 8
  have f8 := h.f 8
  have d9 := h.cell 9
  have f9 := h.f 9
  simp only [List.getElem?_toArray, List.getElem?_cons_zero, List.getElem?_cons_succ] at d0 d1 d2 d3 d4 d5 d6 d7 d8 d9
  have H := hK _ (set_all h n0 n1 n2 n3 n4 n5 n6 n7 n8 n9) (set_allx w b n0 n1 n2 n3 n4 n5 n6 n7 n8 n9)
  unfold Oper.wp
  simp only [execOp, hp, hx]
  go_simp
  exact H
theorem wp_store_tnum {o : Oper} {a : Act} {w : World} {K : Act → World → Prop} {Q : Exit → Act → World → Prop} {p x : Operand} {b o0 : Nat} {cs : Array Value} {t : TypeId} {c0 c1 : Value} {n0 n1 : Int} (ho : o.op = .store 24 p x) (hp : a.eval p = .pointer (some ⟨b, o0, none⟩)) (hx : a.eval x = .agg #[(.int .u64 n0), (.int .u64 n1)]) (h : AtA w b cs t) (h0 : cs[o0]? = some c0) (h1 : cs[o0 + 1]? = some c1)
    (hK : ∀ w', AtA w' b ((cs.setIfInBounds o0 (.int .u64 n0)).setIfInBounds (o0 + 1) (.int .u64 n1)) t → GrX b w w' → K (a.put o.dst undef) w') : o.wp Tryz.prog a w K Q := by
  obtain ⟨dst, op, ty, pos, after, guard⟩ := o
  subst ho
  have d0 := (h.cell o0).trans h0
  have d1 := (h.cell (o0 + 1)).trans h1
  have f0 := h.f o0
  have f1 := h.f (o0 + 1)
  have H := hK _ ((h.st o0 (.int .u64 n0)).st (o0 + 1) (.int .u64 n1)) ((GrX.set o0 (.int .u64 n0)).trans (GrX.set (o0 + 1) (.int .u64 n1)))
  unfold Oper.wp
  simp only [execOp, hp, hx]
  go_simp
  exact H
theorem wp_store_span {o : Oper} {a : Act} {w : World} {K : Act → World → Prop} {Q : Exit → Act → World → Prop} {p x : Operand} {b o0 : Nat} {cs : Array Value} {t : TypeId} {c0 c1 : Value} {n0 n1 : Int} (ho : o.op = .store 26 p x) (hp : a.eval p = .pointer (some ⟨b, o0, none⟩)) (hx : a.eval x = .agg #[(.int .u64 n0), (.int .u64 n1)]) (h : AtA w b cs t) (h0 : cs[o0]? = some c0) (h1 : cs[o0 + 1]? = some c1)
    (hK : ∀ w', AtA w' b ((cs.setIfInBounds o0 (.int .u64 n0)).setIfInBounds (o0 + 1) (.int .u64 n1)) t → GrX b w w' → K (a.put o.dst undef) w') : o.wp Tryz.prog a w K Q := by
  obtain ⟨dst, op, ty, pos, after, guard⟩ := o
  subst ho
  have d0 := (h.cell o0).trans h0
  have d1 := (h.cell (o0 + 1)).trans h1
  have f0 := h.f o0
  have f1 := h.f (o0 + 1)
  have H := hK _ ((h.st o0 (.int .u64 n0)).st (o0 + 1) (.int .u64 n1)) ((GrX.set o0 (.int .u64 n0)).trans (GrX.set (o0 + 1) (.int .u64 n1)))
  unfold Oper.wp
  simp only [execOp, hp, hx]
  go_simp
  exact H
theorem wp_store_reach {o : Oper} {a : Act} {w : World} {K : Act → World → Prop} {Q : Exit → Act → World → Prop} {p x : Operand} {b o0 : Nat} {cs : Array Value} {t : TypeId} {c0 c1 : Value} {n0 n1 : Int} (ho : o.op = .store 28 p x) (hp : a.eval p = .pointer (some ⟨b, o0, none⟩)) (hx : a.eval x = .agg #[(.int .i64 n0), (.int .i64 n1)]) (h : AtA w b cs t) (h0 : cs[o0]? = some c0) (h1 : cs[o0 + 1]? = some c1)
    (hK : ∀ w', AtA w' b ((cs.setIfInBounds o0 (.int .i64 n0)).setIfInBounds (o0 + 1) (.int .i64 n1)) t → GrX b w w' → K (a.put o.dst undef) w') : o.wp Tryz.prog a w K Q := by
  obtain ⟨dst, op, ty, pos, after, guard⟩ := o
  subst ho
  have d0 := (h.cell o0).trans h0
  have d1 := (h.cell (o0 + 1)).trans h1
  have f0 := h.f o0
  have f1 := h.f (o0 + 1)
  have H := hK _ ((h.st o0 (.int .i64 n0)).st (o0 + 1) (.int .i64 n1)) ((GrX.set o0 (.int .i64 n0)).trans (GrX.set (o0 + 1) (.int .i64 n1)))
  unfold Oper.wp
  simp only [execOp, hp, hx]
  go_simp
  exact H
theorem wp_move {o : Oper} {a : Act} {w : World} {K : Act → World → Prop} {Q : Exit → Act → World → Prop} {x : Operand} {v : Value} (ho : o.op = .move x) (hx : a.eval x = v) (hK : K (a.put o.dst v) w) : o.wp Tryz.prog a w K Q := by
  obtain ⟨dst, op, ty, pos, after, guard⟩ := o
  subst ho
  unfold Oper.wp
  simp only [execOp, hx]
  go_simp
  exact hK
theorem wp_call0 {o : Oper} {a : Act} {w : World} {K : Act → World → Prop} {Q : Exit → Act → World → Prop} {f : FuncId} {tys : Array TypeId} (ho : o.op = .call { callee := .value (.func f), args := #[], argTypes := tys })  (hf : (callFunc f #[]).run Tryz.prog w = .ok (.enter f #[]) w)
    (hK : Calls Tryz.prog f #[] w fun e w' => ∃ v, e = .returned v ∧ K (a.put o.dst v) w') : o.wp Tryz.prog a w K Q := by
  obtain ⟨dst, op, ty, pos, after, guard⟩ := o
  subst ho
  have H : (execOp a.eval { dst := dst, op := .call { callee := .value (.func f), args := #[], argTypes := tys }, type := ty, pos := pos, after := after, guard := guard }).run Tryz.prog w = .ok (.enter f #[]) w := by
    simp only [execOp, resolve, List.map_toArray, List.map_cons, List.map_nil]
    go_simp
    try exact hf
  unfold Oper.wp
  rw [H]
  simp only [Oper.upon]
  refine hK.mono ?_
  rintro e w' ⟨v, rfl, hv⟩
  exact hv
theorem wp_call1 {o : Oper} {a : Act} {w : World} {K : Act → World → Prop} {Q : Exit → Act → World → Prop} {f : FuncId} {tys : Array TypeId} {x0 : Operand} {u0 : Value} (ho : o.op = .call { callee := .value (.func f), args := #[x0], argTypes := tys }) (e0 : a.eval x0 = u0) (hf : (callFunc f #[u0]).run Tryz.prog w = .ok (.enter f #[u0]) w)
    (hK : Calls Tryz.prog f #[u0] w fun e w' => ∃ v, e = .returned v ∧ K (a.put o.dst v) w') : o.wp Tryz.prog a w K Q := by
  obtain ⟨dst, op, ty, pos, after, guard⟩ := o
  subst ho
  have H : (execOp a.eval { dst := dst, op := .call { callee := .value (.func f), args := #[x0], argTypes := tys }, type := ty, pos := pos, after := after, guard := guard }).run Tryz.prog w = .ok (.enter f #[u0]) w := by
    simp only [execOp, resolve, List.map_toArray, List.map_cons, List.map_nil, e0]
    go_simp
    try exact hf
  unfold Oper.wp
  rw [H]
  simp only [Oper.upon]
  refine hK.mono ?_
  rintro e w' ⟨v, rfl, hv⟩
  exact hv
theorem wp_call2 {o : Oper} {a : Act} {w : World} {K : Act → World → Prop} {Q : Exit → Act → World → Prop} {f : FuncId} {tys : Array TypeId} {x0 : Operand} {u0 : Value} {x1 : Operand} {u1 : Value} (ho : o.op = .call { callee := .value (.func f), args := #[x0, x1], argTypes := tys }) (e0 : a.eval x0 = u0) (e1 : a.eval x1 = u1) (hf : (callFunc f #[u0, u1]).run Tryz.prog w = .ok (.enter f #[u0, u1]) w)
    (hK : Calls Tryz.prog f #[u0, u1] w fun e w' => ∃ v, e = .returned v ∧ K (a.put o.dst v) w') : o.wp Tryz.prog a w K Q := by
  obtain ⟨dst, op, ty, pos, after, guard⟩ := o
  subst ho
  have H : (execOp a.eval { dst := dst, op := .call { callee := .value (.func f), args := #[x0, x1], argTypes := tys }, type := ty, pos := pos, after := after, guard := guard }).run Tryz.prog w = .ok (.enter f #[u0, u1]) w := by
    simp only [execOp, resolve, List.map_toArray, List.map_cons, List.map_nil, e0, e1]
    go_simp
    try exact hf
  unfold Oper.wp
  rw [H]
  simp only [Oper.upon]
  refine hK.mono ?_
  rintro e w' ⟨v, rfl, hv⟩
  exact hv
theorem wp_call3 {o : Oper} {a : Act} {w : World} {K : Act → World → Prop} {Q : Exit → Act → World → Prop} {f : FuncId} {tys : Array TypeId} {x0 : Operand} {u0 : Value} {x1 : Operand} {u1 : Value} {x2 : Operand} {u2 : Value} (ho : o.op = .call { callee := .value (.func f), args := #[x0, x1, x2], argTypes := tys }) (e0 : a.eval x0 = u0) (e1 : a.eval x1 = u1) (e2 : a.eval x2 = u2) (hf : (callFunc f #[u0, u1, u2]).run Tryz.prog w = .ok (.enter f #[u0, u1, u2]) w)
    (hK : Calls Tryz.prog f #[u0, u1, u2] w fun e w' => ∃ v, e = .returned v ∧ K (a.put o.dst v) w') : o.wp Tryz.prog a w K Q := by
  obtain ⟨dst, op, ty, pos, after, guard⟩ := o
  subst ho
  have H : (execOp a.eval { dst := dst, op := .call { callee := .value (.func f), args := #[x0, x1, x2], argTypes := tys }, type := ty, pos := pos, after := after, guard := guard }).run Tryz.prog w = .ok (.enter f #[u0, u1, u2]) w := by
    simp only [execOp, resolve, List.map_toArray, List.map_cons, List.map_nil, e0, e1, e2]
    go_simp
    try exact hf
  unfold Oper.wp
  rw [H]
  simp only [Oper.upon]
  refine hK.mono ?_
  rintro e w' ⟨v, rfl, hv⟩
  exact hv
theorem wp_call4 {o : Oper} {a : Act} {w : World} {K : Act → World → Prop} {Q : Exit → Act → World → Prop} {f : FuncId} {tys : Array TypeId} {x0 : Operand} {u0 : Value} {x1 : Operand} {u1 : Value} {x2 : Operand} {u2 : Value} {x3 : Operand} {u3 : Value} (ho : o.op = .call { callee := .value (.func f), args := #[x0, x1, x2, x3], argTypes := tys }) (e0 : a.eval x0 = u0) (e1 : a.eval x1 = u1) (e2 : a.eval x2 = u2) (e3 : a.eval x3 = u3) (hf : (callFunc f #[u0, u1, u2, u3]).run Tryz.prog w = .ok (.enter f #[u0, u1, u2, u3]) w)
    (hK : Calls Tryz.prog f #[u0, u1, u2, u3] w fun e w' => ∃ v, e = .returned v ∧ K (a.put o.dst v) w') : o.wp Tryz.prog a w K Q := by
  obtain ⟨dst, op, ty, pos, after, guard⟩ := o
  subst ho
  have H : (execOp a.eval { dst := dst, op := .call { callee := .value (.func f), args := #[x0, x1, x2, x3], argTypes := tys }, type := ty, pos := pos, after := after, guard := guard }).run Tryz.prog w = .ok (.enter f #[u0, u1, u2, u3]) w := by
    simp only [execOp, resolve, List.map_toArray, List.map_cons, List.map_nil, e0, e1, e2, e3]
    go_simp
    try exact hf
  unfold Oper.wp
  rw [H]
  simp only [Oper.upon]
  refine hK.mono ?_
  rintro e w' ⟨v, rfl, hv⟩
  exact hv
theorem wp_call5 {o : Oper} {a : Act} {w : World} {K : Act → World → Prop} {Q : Exit → Act → World → Prop} {f : FuncId} {tys : Array TypeId} {x0 : Operand} {u0 : Value} {x1 : Operand} {u1 : Value} {x2 : Operand} {u2 : Value} {x3 : Operand} {u3 : Value} {x4 : Operand} {u4 : Value} (ho : o.op = .call { callee := .value (.func f), args := #[x0, x1, x2, x3, x4], argTypes := tys }) (e0 : a.eval x0 = u0) (e1 : a.eval x1 = u1) (e2 : a.eval x2 = u2) (e3 : a.eval x3 = u3) (e4 : a.eval x4 = u4) (hf : (callFunc f #[u0, u1, u2, u3, u4]).run Tryz.prog w = .ok (.enter f #[u0, u1, u2, u3, u4]) w)
    (hK : Calls Tryz.prog f #[u0, u1, u2, u3, u4] w fun e w' => ∃ v, e = .returned v ∧ K (a.put o.dst v) w') : o.wp Tryz.prog a w K Q := by
  obtain ⟨dst, op, ty, pos, after, guard⟩ := o
  subst ho
  have H : (execOp a.eval { dst := dst, op := .call { callee := .value (.func f), args := #[x0, x1, x2, x3, x4], argTypes := tys }, type := ty, pos := pos, after := after, guard := guard }).run Tryz.prog w = .ok (.enter f #[u0, u1, u2, u3, u4]) w := by
    simp only [execOp, resolve, List.map_toArray, List.map_cons, List.map_nil, e0, e1, e2, e3, e4]
    go_simp
    try exact hf
  unfold Oper.wp
  rw [H]
  simp only [Oper.upon]
  refine hK.mono ?_
  rintro e w' ⟨v, rfl, hv⟩
  exact hv
end Go.Proofs.YtekenpgagfmgkaaGreat
