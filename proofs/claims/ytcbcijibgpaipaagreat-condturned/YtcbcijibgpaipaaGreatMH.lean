/- Regions whose operations only read, and whose calls make memory at most, operation by operation: of open order, or of the text's. Regions of open order that are quiet but for some operations at their end; parts of bounds, read and written. -/
import Derived.Test.YtcbcijibgpaipaaGreatCB
section
namespace Go.Proofs.YtcbcijibgpaipaaGreat
open Go.ChangeShapes Go.WideShapes Go.ChangeAt Go.RowKit
open Tn (iv)
set_option linter.unusedVariables false
set_option linter.unusedSimpArgs false

section
variable {P : Program} {ops : Array Oper} {C : World → Prop}
theorem wp_region_q {id : Nat} {Q : Exit → Act → World → Prop} {a : Act} {w : World} {l : List Oper} (hm : P.follows .mixedOrders = true) (hB : Region.lexB .any l.toArray = true) (hC : C w.drew)
    (h : wpQuiet P l.toArray C (fun a' => ∀ w', C w' → Q .normal a' w') l a) : (Code.region id l.toArray true).wp P Q a w :=
  wp_region_quiet (C := C) hm hB hC (by simpa using h)
theorem q_do {Q : Act → Prop} {o : Oper} {rest : List Oper} {a : Act} (hw : Region.wanted o (yielded ops a.tmps) = true) (h : o.quiet P a C (wpQuiet P ops C Q rest)) : wpQuiet P ops C Q (o :: rest) a := by
  unfold wpQuiet
  rw [if_pos hw]
  exact h
theorem q_run {o : Oper} {a : Act} {K : Act → Prop} {v : Value} (h : ∀ w, C w → (execOp a.eval o).run P w = .ok (.value v) w) (hK : K (a.put o.dst v)) : o.quiet P a C K :=
  ⟨v, fun w hw => by unfold Oper.quietAt; rw [h w hw]; exact ⟨rfl, rfl⟩, hK⟩
theorem q_enter {o : Oper} {a : Act} {K : Act → Prop} {v : Value} {f : FuncId} {args : Array Value} (h : ∀ w, (execOp a.eval o).run P w = .ok (.enter f args) w) (hc : ∀ w, C w → Calls P f args w fun e w' => e = .returned v ∧ C w') (hK : K (a.put o.dst v)) : o.quiet P a C K :=
  ⟨v, fun w hw => by unfold Oper.quietAt; rw [h w]; exact ⟨rfl, hc w hw⟩, hK⟩
end
section
variable {o : Oper} {a : Act} {C : World → Prop} {K : Act → Prop} {x y z : Operand}
theorem q_move {v : Value} (ho : o.op = .move x) (hx : a.eval x = v) (hK : K (a.put o.dst v)) : o.quiet Tryz.prog a C K := by
  refine q_run (v := v) (fun w hw => ?_) hK
  obtain ⟨dst, op, ty, pos, after, guard⟩ := o
  subst ho
  simp only [execOp, hx]
  go_simp
theorem q_assign {v : Value} (ho : o.op = .assign x) (hx : a.eval x = v) (hK : K (a.put o.dst v)) : o.quiet Tryz.prog a C K := by
  refine q_run (v := v) (fun w hw => ?_) hK
  obtain ⟨dst, op, ty, pos, after, guard⟩ := o
  subst ho
  simp only [execOp, hx]
  go_simp
theorem q_call2 {f : FuncId} {tys : Array TypeId} {x0 : Operand} {u0 : Value} {x1 : Operand} {u1 : Value} {v : Value} (ho : o.op = .call { callee := .value (.func f), args := #[x0, x1], argTypes := tys }) (e0 : a.eval x0 = u0) (e1 : a.eval x1 = u1) (hf : ∀ w, (callFunc f #[u0, u1]).run Tryz.prog w = .ok (.enter f #[u0, u1]) w)
    (hc : ∀ w, C w → Calls Tryz.prog f #[u0, u1] w fun e w' => e = .returned v ∧ C w') (hK : K (a.put o.dst v)) : o.quiet Tryz.prog a C K := by
  refine q_enter (v := v) (f := f) (args := #[u0, u1]) (fun w => ?_) hc hK
  obtain ⟨dst, op, ty, pos, after, guard⟩ := o
  subst ho
  have hf := hf w
  simp only [execOp, resolve, List.map_toArray, List.map_cons, List.map_nil, e0, e1]
  go_simp
  try exact hf
theorem q_call4 {f : FuncId} {tys : Array TypeId} {x0 : Operand} {u0 : Value} {x1 : Operand} {u1 : Value} {x2 : Operand} {u2 : Value} {x3 : Operand} {u3 : Value} {v : Value} (ho : o.op = .call { callee := .value (.func f), args := #[x0, x1, x2, x3], argTypes := tys }) (e0 : a.eval x0 = u0) (e1 : a.eval x1 = u1) (e2 : a.eval x2 = u2) (e3 : a.eval x3 = u3) (hf : ∀ w, (callFunc f #[u0, u1, u2, u3]).run Tryz.prog w = .ok (.enter f #[u0, u1, u2, u3]) w)
    (hc : ∀ w, C w → Calls Tryz.prog f #[u0, u1, u2, u3] w fun e w' => e = .returned v ∧ C w') (hK : K (a.put o.dst v)) : o.quiet Tryz.prog a C K := by
  refine q_enter (v := v) (f := f) (args := #[u0, u1, u2, u3]) (fun w => ?_) hc hK
  obtain ⟨dst, op, ty, pos, after, guard⟩ := o
  subst ho
  have hf := hf w
  simp only [execOp, resolve, List.map_toArray, List.map_cons, List.map_nil, e0, e1, e2, e3]
  go_simp
  try exact hf
end
/-- A contract that holds in every world that has grown out of W. -/
theorem grc {f : FuncId} {args : Array Value} {v v' : Value} {W : World} (h : ∀ w, Calls Tryz.prog f args w fun e w' => e = .returned v ∧ Gr w w') (hv : v = v') : ∀ w, Gr W w → Calls Tryz.prog f args w fun e w' => e = .returned v' ∧ Gr W w' := fun w hw => (h w).mono fun e w' k => ⟨hv ▸ k.1, hw.trans k.2⟩
end Go.Proofs.YtcbcijibgpaipaaGreat
end
section
namespace Go.Proofs.YtcbcijibgpaipaaGreat
open Go.ChangeShapes Go.WideShapes Go.ChangeAt Go.RowKit
open Tn (iv)
set_option linter.unusedVariables false
set_option linter.unusedSimpArgs false
section
variable {P : Program} {md : Region.Mode} {C : World → Prop} {Q : Exit → Act → World → Prop}
end
section
variable {P : Program} {ops : Array Oper} {Q : Exit → Act → World → Prop}
end
section
variable {o : Oper} {a : Act} {C : World → Prop} {K : Act → Prop} {x y z : Operand} {b : Nat}
theorem q_pU {o0 : Nat} {cs : Array Value} {t : TypeId} {v0 v1 : Value} (ho : o.op = .load 26 x) (hp : a.eval x = .pointer (some ⟨b, o0, none⟩)) (h : ∀ w, C w → AtA w b cs t) (h0 : cs[o0]? = some v0) (h1 : cs[o0 + 1]? = some v1) (hK : K (a.put o.dst (.agg #[v0, v1]))) : o.quiet Tryz.prog a C K := by
  refine q_run (v := .agg #[v0, v1]) (fun w hw => ?_) hK
  have d0 := ((h w hw).cell o0).trans h0
  have d1 := ((h w hw).cell (o0 + 1)).trans h1
  obtain ⟨dst, op, ty, pos, after, guard⟩ := o
  subst ho
  simp only [execOp, hp]
  go_simp
theorem q_pS {o0 : Nat} {cs : Array Value} {t : TypeId} {v0 v1 : Value} (ho : o.op = .load 28 x) (hp : a.eval x = .pointer (some ⟨b, o0, none⟩)) (h : ∀ w, C w → AtA w b cs t) (h0 : cs[o0]? = some v0) (h1 : cs[o0 + 1]? = some v1) (hK : K (a.put o.dst (.agg #[v0, v1]))) : o.quiet Tryz.prog a C K := by
  refine q_run (v := .agg #[v0, v1]) (fun w hw => ?_) hK
  have d0 := ((h w hw).cell o0).trans h0
  have d1 := ((h w hw).cell (o0 + 1)).trans h1
  obtain ⟨dst, op, ty, pos, after, guard⟩ := o
  subst ho
  simp only [execOp, hp]
  go_simp
theorem q_extract {i : Nat} {vs : Array Value} {v : Value} (ho : o.op = .extract x i) (hx : a.eval x = .tuple vs) (hi : vs[i]? = some v) (hK : K (a.put o.dst v)) : o.quiet Tryz.prog a C K := by
  refine q_run (v := v) (fun w hw => ?_) hK
  obtain ⟨dst, op, ty, pos, after, guard⟩ := o
  subst ho
  simp only [execOp, hx]
  go_simp
end
section
variable {o : Oper} {a : Act} {w : World} {K : Act → World → Prop} {Q : Exit → Act → World → Prop} {p x : Operand} {b : Nat} {d : Bd}
theorem wp_fa0 (ho : o.op = .fieldAddr 30 p 0) (hp : a.eval p = .pointer (some ⟨b, 0, none⟩)) (hK : K (a.put o.dst (.pointer (some ⟨b, 0, none⟩))) w) : o.wp Tryz.prog a w K Q := by
  obtain ⟨dst, op, ty, pos, after, guard⟩ := o
  subst ho
  unfold Oper.wp
  simp only [execOp, hp]
  go_simp
  exact hK
theorem wp_fa1 (ho : o.op = .fieldAddr 30 p 1) (hp : a.eval p = .pointer (some ⟨b, 0, none⟩)) (hK : K (a.put o.dst (.pointer (some ⟨b, 2, none⟩))) w) : o.wp Tryz.prog a w K Q := by
  obtain ⟨dst, op, ty, pos, after, guard⟩ := o
  subst ho
  unfold Oper.wp
  simp only [execOp, hp]
  go_simp
  exact hK
theorem wp_fa3 (ho : o.op = .fieldAddr 30 p 3) (hp : a.eval p = .pointer (some ⟨b, 0, none⟩)) (hK : K (a.put o.dst (.pointer (some ⟨b, 6, none⟩))) w) : o.wp Tryz.prog a w K Q := by
  obtain ⟨dst, op, ty, pos, after, guard⟩ := o
  subst ho
  unfold Oper.wp
  simp only [execOp, hp]
  go_simp
  exact hK
theorem wp_fa4 (ho : o.op = .fieldAddr 30 p 4) (hp : a.eval p = .pointer (some ⟨b, 0, none⟩)) (hK : K (a.put o.dst (.pointer (some ⟨b, 8, none⟩))) w) : o.wp Tryz.prog a w K Q := by
  obtain ⟨dst, op, ty, pos, after, guard⟩ := o
  subst ho
  unfold Oper.wp
  simp only [execOp, hp]
  go_simp
  exact hK
theorem wp_stT {v m : BitVec 64} (ho : o.op = .store 24 p x) (hp : a.eval p = .pointer (some ⟨b, 0, none⟩)) (hx : a.eval x = .agg #[.int .u64 (iv v), .int .u64 (iv m)]) (h : AtA w b (bv d) 30)
    (hK : ∀ w', AtA w' b (bv { d with tv := v, tm := m }) 30 → GrX b w w' → K (a.put o.dst undef) w') : o.wp Tryz.prog a w K Q :=
  wp_store_tnum ho hp hx h rfl rfl hK
theorem wp_stU {l u : Int} (ho : o.op = .store 26 p x) (hp : a.eval p = .pointer (some ⟨b, 2, none⟩)) (hx : a.eval x = .agg #[.int .u64 l, .int .u64 u]) (h : AtA w b (bv d) 30)
    (hK : ∀ w', AtA w' b (bv { d with ul := l, uh := u }) 30 → GrX b w w' → K (a.put o.dst undef) w') : o.wp Tryz.prog a w K Q :=
  wp_store_span ho hp hx h rfl rfl hK
theorem wp_stS {l u : Int} (ho : o.op = .store 28 p x) (hp : a.eval p = .pointer (some ⟨b, 4, none⟩)) (hx : a.eval x = .agg #[.int .i64 l, .int .i64 u]) (h : AtA w b (bv d) 30)
    (hK : ∀ w', AtA w' b (bv { d with sl := l, sh := u }) 30 → GrX b w w' → K (a.put o.dst undef) w') : o.wp Tryz.prog a w K Q :=
  wp_store_reach ho hp hx h rfl rfl hK
theorem wp_stW {l u : Int} (ho : o.op = .store 26 p x) (hp : a.eval p = .pointer (some ⟨b, 6, none⟩)) (hx : a.eval x = .agg #[.int .u64 l, .int .u64 u]) (h : AtA w b (bv d) 30)
    (hK : ∀ w', AtA w' b (bv { d with wl := l, wh := u }) 30 → GrX b w w' → K (a.put o.dst undef) w') : o.wp Tryz.prog a w K Q :=
  wp_store_span ho hp hx h rfl rfl hK
theorem wp_stV {l u : Int} (ho : o.op = .store 28 p x) (hp : a.eval p = .pointer (some ⟨b, 8, none⟩)) (hx : a.eval x = .agg #[.int .i64 l, .int .i64 u]) (h : AtA w b (bv d) 30)
    (hK : ∀ w', AtA w' b (bv { d with vl := l, vh := u }) 30 → GrX b w w' → K (a.put o.dst undef) w') : o.wp Tryz.prog a w K Q :=
  wp_store_reach ho hp hx h rfl rfl hK
theorem wp_pT {o0 : Nat} {cs : Array Value} {t : TypeId} {v0 v1 : Value} (ho : o.op = .load 24 p) (hp : a.eval p = .pointer (some ⟨b, o0, none⟩)) (h : AtA w b cs t) (h0 : cs[o0]? = some v0) (h1 : cs[o0 + 1]? = some v1)
    (hK : K (a.put o.dst (.agg #[v0, v1])) w) : o.wp Tryz.prog a w K Q :=
  wp_load_tnum ho hp h h0 h1 hK
theorem wp_pU {o0 : Nat} {cs : Array Value} {t : TypeId} {v0 v1 : Value} (ho : o.op = .load 26 p) (hp : a.eval p = .pointer (some ⟨b, o0, none⟩)) (h : AtA w b cs t) (h0 : cs[o0]? = some v0) (h1 : cs[o0 + 1]? = some v1)
    (hK : K (a.put o.dst (.agg #[v0, v1])) w) : o.wp Tryz.prog a w K Q :=
  wp_load_span ho hp h h0 h1 hK
theorem wp_pS {o0 : Nat} {cs : Array Value} {t : TypeId} {v0 v1 : Value} (ho : o.op = .load 28 p) (hp : a.eval p = .pointer (some ⟨b, o0, none⟩)) (h : AtA w b cs t) (h0 : cs[o0]? = some v0) (h1 : cs[o0 + 1]? = some v1)
    (hK : K (a.put o.dst (.agg #[v0, v1])) w) : o.wp Tryz.prog a w K Q :=
  wp_load_reach ho hp h h0 h1 hK
end
section
variable {o : Oper} {a : Act} {w : World} {K : Act → World → Prop} {Q : Exit → Act → World → Prop} {p x : Operand} {b : Nat}
theorem wA {v : Value} (ho : o.op = .assign x) (hx : a.eval x = v) (hK : K (a.put o.dst v) w) : o.wp Tryz.prog a w K Q := by
  obtain ⟨dst, op, ty, pos, after, guard⟩ := o
  subst ho
  unfold Oper.wp
  simp only [execOp, hx]
  go_simp
  exact hK
theorem wp_extract {i : Nat} {vs : Array Value} {v : Value} (ho : o.op = .extract x i) (hx : a.eval x = .tuple vs) (hi : vs[i]? = some v) (hK : K (a.put o.dst v) w) : o.wp Tryz.prog a w K Q := by
  obtain ⟨dst, op, ty, pos, after, guard⟩ := o
  subst ho
  unfold Oper.wp
  simp only [execOp, hx]
  go_simp
  exact hK
theorem wp_nil {r : Addr} (ho : o.op = .nilCheck x) (hx : a.eval x = .pointer (some r)) (hK : K (a.put o.dst (.pointer (some r))) w) : o.wp Tryz.prog a w K Q := by
  obtain ⟨dst, op, ty, pos, after, guard⟩ := o
  subst ho
  unfold Oper.wp
  simp only [execOp, hx]
  go_simp
  exact hK
theorem wp_allocT (ho : o.op = .alloc 24)
    (hK : ∀ w', AtA w' w.heap.size #[.int .u64 0, .int .u64 0] 24 → Gr w w' → K (a.put o.dst (.pointer (some ⟨w.heap.size, 0, none⟩))) w') : o.wp Tryz.prog a w K Q :=
  wp_alloc_tnum ho (hK _ (AtA.newb _ rfl _ _) (Gr.alloc (Gr.refl w) _ _))
theorem wp_storeT {c0 c1 : Value} {n0 n1 : Int} (ho : o.op = .store 24 p x) (hp : a.eval p = .pointer (some ⟨b, 0, none⟩)) (hx : a.eval x = .agg #[.int .u64 n0, .int .u64 n1]) (h : AtA w b #[c0, c1] 24)
    (hK : ∀ w', AtA w' b #[.int .u64 n0, .int .u64 n1] 24 → GrX b w w' → K (a.put o.dst undef) w') : o.wp Tryz.prog a w K Q :=
  wp_store_tnum ho hp hx h rfl rfl hK
end
section
variable {o : Oper} {a : Act} {C : World → Prop} {K : Act → Prop} {x y : Operand}
theorem q_nil {r : Addr} (ho : o.op = .nilCheck x) (hx : a.eval x = .pointer (some r)) (hK : K (a.put o.dst (.pointer (some r)))) : o.quiet Tryz.prog a C K := by
  refine q_run (v := .pointer (some r)) (fun w hw => ?_) hK
  obtain ⟨dst, op, ty, pos, after, guard⟩ := o
  subst ho
  simp only [execOp, hx]
  go_simp
end
/-- A bound's cells, read as a result. -/
theorem cells_bv {w : World} {b : Nat} {d : Bd} (h : AtA w b (bv d) 30) : w.cell? ⟨b, 0, none⟩ = some (.int .u64 (iv d.tv)) ∧ w.cell? ⟨b, 1, none⟩ = some (.int .u64 (iv d.tm)) ∧ w.cell? ⟨b, 2, none⟩ = some (.int .u64 d.ul) ∧ w.cell? ⟨b, 3, none⟩ = some (.int .u64 d.uh) ∧ w.cell? ⟨b, 4, none⟩ = some (.int .i64 d.sl) ∧ w.cell? ⟨b, 5, none⟩ = some (.int .i64 d.sh) ∧ w.cell? ⟨b, 6, none⟩ = some (.int .u64 d.wl) ∧ w.cell? ⟨b, 7, none⟩ = some (.int .u64 d.wh) ∧ w.cell? ⟨b, 8, none⟩ = some (.int .i64 d.vl) ∧ w.cell? ⟨b, 9, none⟩ = some (.int .i64 d.vh) :=
  ⟨h.cell 0, h.cell 1, h.cell 2, h.cell 3, h.cell 4, h.cell 5, h.cell 6, h.cell 7, h.cell 8, h.cell 9⟩
end Go.Proofs.YtcbcijibgpaipaaGreat
end
