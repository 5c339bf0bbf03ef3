/- Towards the statements of package bound (layer 5): a bound's cells as one word; the calls' contracts in that word. Regions whose operations only read, and whose calls make memory at most, operation by operation: of open order, or of the text's. -/
import Derived.Test.YtekenpgagfmgkabGreatRS
import Derived.Test.YtekenpgagfmgkabGreatBW
import Derived.Test.YtekenpgagfmgkabGreatBI
import Derived.Test.YtekenpgagfmgkabGreatBL
import Derived.Test.YtekenpgagfmgkabGreatBX
import Derived.Test.YtekenpgagfmgkabGreatBY
import Derived.Test.YtekenpgagfmgkabGreatBR
section
namespace Go.Proofs.YtekenpgagfmgkabGreat
open Go.ChangeShapes Go.WideShapes Go.ChangeAt Go.RowKit
open Tn (iv)
set_option linter.unusedVariables false

/-- A bound's ten cells. -/
def bv (b : Bd) : Array Value := #[.int .u64 (iv b.tv), .int .u64 (iv b.tm), .int .u64 b.ul, .int .u64 b.uh, .int .i64 b.sl, .int .i64 b.sh, .int .u64 b.wl, .int .u64 b.wh, .int .i64 b.vl, .int .i64 b.vh]
def zeroM : Bd := ⟨0#64, 0#64, 0, 0, 0, 0, 0, 0, 0, 0⟩
theorem bv_zero : bv zeroM = #[.int .u64 0, .int .u64 0, .int .u64 0, .int .u64 0, .int .i64 0, .int .i64 0, .int .u64 0, .int .u64 0, .int .i64 0, .int .i64 0] := rfl
section
variable {o : Oper} {a : Act} {w : World} {K : Act → World → Prop} {Q : Exit → Act → World → Prop} {p x : Operand} {b : Nat} {c d : Bd}
theorem wp_loadB (ho : o.op = .load 33 p) (hp : a.eval p = .pointer (some ⟨b, 0, none⟩)) (h : AtA w b (bv d) 33) (hK : K (a.put o.dst (.agg (bv d))) w) : o.wp Tryz.prog a w K Q :=
  wp_load_bound ho hp h hK
theorem wp_storeB (ho : o.op = .store 33 p x) (hp : a.eval p = .pointer (some ⟨b, 0, none⟩)) (hx : a.eval x = .agg (bv d)) (h : AtA w b (bv c) 33)
    (hK : ∀ w', AtA w' b (bv d) 33 → GrX b w w' → K (a.put o.dst undef) w') : o.wp Tryz.prog a w K Q :=
  wp_store_bound ho hp hx h hK
theorem wp_allocB (ho : o.op = .alloc 33)
    (hK : ∀ w', AtA w' w.heap.size (bv zeroM) 33 → Gr w w' → K (a.put o.dst (.pointer (some ⟨w.heap.size, 0, none⟩))) w') : o.wp Tryz.prog a w K Q :=
  wp_alloc_bound ho (hK _ (AtA.newb _ rfl _ _) (Gr.alloc (Gr.refl w) _ _))
end
section
variable (a b : Bd) (x : BitVec 64) (w : World)
theorem k_sync (g : Good a) : Calls Tryz.prog 9 #[.agg (bv a)] w fun e w' => e = .returned (.agg (bv (syncM a))) ∧ Gr w w' :=
  sync_any a ⟨g.u0, Int.le_trans g.u1 g.u2⟩ ⟨Int.le_trans g.u0 g.u1, g.u2⟩ ⟨g.s0, Int.le_trans g.s1 g.s2⟩ ⟨Int.le_trans g.s0 g.s1, g.s2⟩ w
theorem k_has : Calls Tryz.prog 13 #[.agg (bv a), .int .u64 (iv x)] w fun e w' => e = .returned (.bool (hasM a x)) ∧ Gr w w' :=
  has_all a.tv a.tm a.ul a.uh a.sl a.sh a.wl a.wh a.vl a.vh x w
theorem k_in : Calls Tryz.prog 12 #[.agg (bv a), .agg (bv b)] w fun e w' => e = .returned (.bool (inM a b)) ∧ Gr w w' := by
  refine (in_all a.tv a.tm a.ul a.uh a.sl a.sh a.wl a.wh a.vl a.vh b.tv b.tm b.ul b.uh b.sl b.sh b.wl b.wh b.vl b.vh w).mono ?_
  rintro e w' ⟨rfl, hg⟩
  refine ⟨?_, hg⟩
  simp only [inM, inR, nnB, nn, Bool.and_assoc]
theorem k_none : Calls Tryz.prog 26 #[.agg (bv a)] w fun e w' => e = .returned (.bool (nnB a)) ∧ Gr w w' :=
  None_any a.tv a.tm a.ul a.uh a.sl a.sh a.wl a.wh a.vl a.vh w
theorem k_const : Calls Tryz.prog 14 #[.int .u64 (iv x)] w fun e w' => e = .returned (.agg (bv (constM x))) ∧ Gr w w' := const_any x w
theorem k_any : Calls Tryz.prog 17 #[] w fun e w' => e = .returned (.agg (bv anyM)) ∧ Gr w w' := any_any w
theorem k_meet (ga : Good a) (gb : Good b) (ka : Has a x) (kb : Has b x) : Calls Tryz.prog 11 #[.agg (bv a), .agg (bv b)] w fun e w' => e = .returned (.agg (bv (syncM (meetP a b)))) ∧ Gr w w' := by
  have g := meetP_good ga gb ka kb
  exact meet_go a.tv a.tm a.ul a.uh a.sl a.sh a.wl a.wh a.vl a.vh b.tv b.tm b.ul b.uh b.sl b.sh b.wl b.wh b.vl b.vh _ rfl ⟨g.u0, Int.le_trans g.u1 g.u2⟩ ⟨Int.le_trans g.u0 g.u1, g.u2⟩ ⟨g.s0, Int.le_trans g.s1 g.s2⟩ ⟨Int.le_trans g.s0 g.s1, g.s2⟩ (nnB_of ga) (nnB_of gb) (meetX_of ka kb) w
end
/-- What a bound about a number is told by. -/
structure Ab where
  ma : BitVec 64
  dn : Int
  up : Int
  ls : Int
  mo : Int
  hf : Int
  tp : Int
structure AbOk (v : Ab) : Prop where
  dn : InU v.dn
  up : InU v.up
  ls : InU v.ls
  mo : InU v.mo
  hf : 0 ≤ v.hf ∧ v.hf ≤ 4294967295
  tp : 0 ≤ v.tp ∧ v.tp ≤ 4294967295
def av (v : Ab) : Array Value := #[.int .u64 (iv v.ma), .int .u64 v.dn, .int .u64 v.up, .int .u64 v.ls, .int .u64 v.mo, .int .u32 v.hf, .int .u32 v.tp]
theorem k_of (v : Ab) (h : AbOk v) (x : BitVec 64) (w : World) : Calls Tryz.prog 10 #[.agg (av v), .int .u64 (iv x)] w fun e w' => ∃ b : Bd, Good b ∧ Has b x ∧ e = .returned (.agg (bv b)) ∧ Gr w w' :=
  of_any v.ma x v.dn v.up v.ls v.mo v.hf v.tp h.dn h.up h.ls h.mo h.hf h.tp w
theorem wp_loadA {o : Oper} {a : Act} {w : World} {K : Act → World → Prop} {Q : Exit → Act → World → Prop} {p : Operand} {b : Nat} {v : Ab} (ho : o.op = .load 25 p) (hp : a.eval p = .pointer (some ⟨b, 0, none⟩)) (h : AtA w b (av v) 25) (hK : K (a.put o.dst (.agg (av v))) w) : o.wp Tryz.prog a w K Q :=
  wp_load_about ho hp h hK
end Go.Proofs.YtekenpgagfmgkabGreat
end
section
namespace Go.Proofs.YtekenpgagfmgkabGreat
open Go.ChangeShapes Go.WideShapes Go.ChangeAt Go.RowKit
open Tn (iv)
set_option linter.unusedVariables false
set_option linter.unusedSimpArgs false

section
variable {P : Program} {ops : Array Oper} {C : World → Prop}
theorem wpOps_of_quiet {Q : Exit → Act → World → Prop} {R : Act → Prop} (hQ : ∀ a w, C w → R a → Q .normal a w) : ∀ (l : List Oper) (k : Nat) (a : Act) (w : World), (∀ j, l[j]? = ops[k + j]?) → C w → wpQuiet P ops C R l a → wpOps P ops Q (List.range' k l.length) a w
  | [], _, a, w, _, hC, h => hQ a w hC h
  | o :: l, k, a, w, hl, hC, h => by
    have h0 : ops[k]? = some o := by simpa using (hl 0).symm
    have hl' : ∀ j, l[j]? = ops[k + 1 + j]? := fun j => by have := hl (j + 1); simpa [Nat.add_assoc, Nat.add_comm 1 j] using this
    rw [List.length_cons, List.range'_succ]
    unfold wpOps
    simp only [h0]
    unfold wpQuiet at h
    split
    · rename_i hw
      rw [if_pos hw] at h
      exact .inl (Oper.wp_of_quiet hC (fun a' w' hC' hK => wpOps_of_quiet hQ l (k + 1) a' w' hl' hC' hK) h)
    · rename_i hw
      rw [if_neg hw] at h
      exact wpOps_of_quiet hQ l (k + 1) _ w hl' hC h
/-- A region of the text's order, whose operations are quiet in a class of worlds. -/
theorem wp_region_seqq {id : Nat} {Q : Exit → Act → World → Prop} {a : Act} {w : World} {l : List Oper} (hC : C w)
    (h : wpQuiet P l.toArray C (fun a' => ∀ w', C w' → Q .normal a' w') l a) : (Code.region id l.toArray false).wp P Q a w := by
  refine wp_region ?_
  have := wpOps_of_quiet (P := P) (ops := l.toArray) (C := C) (Q := Q) (fun a w hC h => h w hC) l 0 a w (by simp) hC h
  rw [List.range_eq_range']
  simpa using this
theorem wp_region_q {id : Nat} {Q : Exit → Act → World → Prop} {a : Act} {w : World} {l : List Oper} (hm : P.follows .mixedOrders = true) (hB : Region.lexB .any l.toArray = true) (hC : C w.drew)
    (h : wpQuiet P l.toArray C (fun a' => ∀ w', C w' → Q .normal a' w') l a) : (Code.region id l.toArray true).wp P Q a w :=
  wp_region_quiet (C := C) hm hB hC (by simpa using h)
theorem q_do {Q : Act → Prop} {o : Oper} {rest : List Oper} {a : Act} (hw : Region.wanted o (yielded ops a.tmps) = true) (h : o.quiet P a C (wpQuiet P ops C Q rest)) : wpQuiet P ops C Q (o :: rest) a := by
  unfold wpQuiet
  rw [if_pos hw]
  exact h
theorem q_skip {Q : Act → Prop} {o : Oper} {rest : List Oper} {a : Act} (hw : Region.wanted o (yielded ops a.tmps) = false) (h : wpQuiet P ops C Q rest (a.put o.dst undef)) : wpQuiet P ops C Q (o :: rest) a := by
  unfold wpQuiet
  rw [if_neg (by rw [hw]; decide)]
  exact h
theorem q_run {o : Oper} {a : Act} {K : Act → Prop} {v : Value} (h : ∀ w, C w → (execOp a.eval o).run P w = .ok (.value v) w) (hK : K (a.put o.dst v)) : o.quiet P a C K :=
  ⟨v, fun w hw => by unfold Oper.quietAt; rw [h w hw]; exact ⟨rfl, rfl⟩, hK⟩
theorem q_enter {o : Oper} {a : Act} {K : Act → Prop} {v : Value} {f : FuncId} {args : Array Value} (h : ∀ w, (execOp a.eval o).run P w = .ok (.enter f args) w) (hc : ∀ w, C w → Calls P f args w fun e w' => e = .returned v ∧ C w') (hK : K (a.put o.dst v)) : o.quiet P a C K :=
  ⟨v, fun w hw => by unfold Oper.quietAt; rw [h w]; exact ⟨rfl, hc w hw⟩, hK⟩
end
section
variable {o : Oper} {a : Act} {C : World → Prop} {K : Act → Prop} {x y z : Operand}
theorem q_loadB {b : Nat} {d : Bd} (ho : o.op = .load 33 x) (hp : a.eval x = .pointer (some ⟨b, 0, none⟩)) (h : ∀ w, C w → AtA w b (bv d) 33) (hK : K (a.put o.dst (.agg (bv d)))) : o.quiet Tryz.prog a C K := by
  refine q_run (v := .agg (bv d)) (fun w hw => ?_) hK
  have h' := h w hw
  obtain ⟨dst, op, ty, pos, after, guard⟩ := o
  subst ho
  unfold bv at h' ⊢
  have d0 := h'.cell 0
  have d1 := h'.cell 1
  have d2 := h'.cell 2
  have d3 := h'.cell 3
  have d4 := h'.cell 4
  have d5 := h'.cell 5
  have d6 := h'.cell 6
  have d7 := h'.cell 7
  have d8 := h'.cell 8
  have d9 := h'.cell 9
  simp only [List.getElem?_toArray, List.getElem?_cons_zero, List.getElem?_cons_succ] at d0 d1 d2 d3 d4 d5 d6 d7 d8 d9
  simp only [execOp, hp]
  go_simp
theorem q_move {v : Value} (ho : o.op = .move x) (hx : a.eval x = v) (hK : K (a.put o.dst v)) : o.quiet Tryz.prog a C K := by
  refine q_run (v := v) (fun w hw => ?_) hK
  obtain ⟨dst, op, ty, pos, after, guard⟩ := o
  subst ho
  simp only [execOp, hx]
  go_simp
theorem q_assign {v : Value} (ho : o.op = .assign x) (hx : a.eval x = v) (hK : K (a.put o.dst v)) : o.quiet Tryz.prog a C K := by
  refine q_run (v := v) (fun w hw => ?_) hK
  obtain ⟨dst, op, ty, pos, after, guard⟩ := o
  subst ho
  simp only [execOp, hx]
  go_simp
theorem q_not {b c : Bool} {t : TypeId} (ho : o.op = .unOp .not t x) (hx : a.eval x = .bool b) (hc : (!b) = c) (hK : K (a.put o.dst (.bool c))) : o.quiet Tryz.prog a C K := by
  refine q_run (v := .bool c) (fun w hw => ?_) hK
  subst hc
  obtain ⟨dst, op, ty, pos, after, guard⟩ := o
  subst ho
  simp only [execOp, hx]
  go_simp
theorem q_pickT {v : Value} (ho : o.op = .pick x y z) (hx : a.eval x = .bool true) (hy : a.eval y = v) (hK : K (a.put o.dst v)) : o.quiet Tryz.prog a C K := by
  refine q_run (v := v) (fun w hw => ?_) hK
  obtain ⟨dst, op, ty, pos, after, guard⟩ := o
  subst ho
  simp only [execOp, hx, hy]
  go_simp
theorem q_pickF {v : Value} (ho : o.op = .pick x y z) (hx : a.eval x = .bool false) (hy : a.eval z = v) (hK : K (a.put o.dst v)) : o.quiet Tryz.prog a C K := by
  refine q_run (v := v) (fun w hw => ?_) hK
  obtain ⟨dst, op, ty, pos, after, guard⟩ := o
  subst ho
  simp only [execOp, hx, hy]
  go_simp
theorem q_eqB {b c r : Bool} (ho : o.op = .binOp .eql 4 x y 4) (hx : a.eval x = .bool b) (hy : a.eval y = .bool c) (hr : (b == c) = r) (hK : K (a.put o.dst (.bool r))) : o.quiet Tryz.prog a C K := by
  refine q_run (v := .bool r) (fun w hw => ?_) hK
  obtain ⟨dst, op, ty, pos, after, guard⟩ := o
  subst ho
  subst hr
  simp only [execOp, hx, hy]
  go_simp
theorem q_call0 {f : FuncId} {tys : Array TypeId} {v : Value} (ho : o.op = .call { callee := .value (.func f), args := #[], argTypes := tys })  (hf : ∀ w, (callFunc f #[]).run Tryz.prog w = .ok (.enter f #[]) w)
    (hc : ∀ w, C w → Calls Tryz.prog f #[] w fun e w' => e = .returned v ∧ C w') (hK : K (a.put o.dst v)) : o.quiet Tryz.prog a C K := by
  refine q_enter (v := v) (f := f) (args := #[]) (fun w => ?_) hc hK
  obtain ⟨dst, op, ty, pos, after, guard⟩ := o
  subst ho
  have hf := hf w
  simp only [execOp, resolve, List.map_toArray, List.map_cons, List.map_nil]
  go_simp
  try exact hf
theorem q_call1 {f : FuncId} {tys : Array TypeId} {x0 : Operand} {u0 : Value} {v : Value} (ho : o.op = .call { callee := .value (.func f), args := #[x0], argTypes := tys }) (e0 : a.eval x0 = u0) (hf : ∀ w, (callFunc f #[u0]).run Tryz.prog w = .ok (.enter f #[u0]) w)
    (hc : ∀ w, C w → Calls Tryz.prog f #[u0] w fun e w' => e = .returned v ∧ C w') (hK : K (a.put o.dst v)) : o.quiet Tryz.prog a C K := by
  refine q_enter (v := v) (f := f) (args := #[u0]) (fun w => ?_) hc hK
  obtain ⟨dst, op, ty, pos, after, guard⟩ := o
  subst ho
  have hf := hf w
  simp only [execOp, resolve, List.map_toArray, List.map_cons, List.map_nil, e0]
  go_simp
  try exact hf
theorem q_call2 {f : FuncId} {tys : Array TypeId} {x0 : Operand} {u0 : Value} {x1 : Operand} {u1 : Value} {v : Value} (ho : o.op = .call { callee := .value (.func f), args := #[x0, x1], argTypes := tys }) (e0 : a.eval x0 = u0) (e1 : a.eval x1 = u1) (hf : ∀ w, (callFunc f #[u0, u1]).run Tryz.prog w = .ok (.enter f #[u0, u1]) w)
    (hc : ∀ w, C w → Calls Tryz.prog f #[u0, u1] w fun e w' => e = .returned v ∧ C w') (hK : K (a.put o.dst v)) : o.quiet Tryz.prog a C K := by
  refine q_enter (v := v) (f := f) (args := #[u0, u1]) (fun w => ?_) hc hK
  obtain ⟨dst, op, ty, pos, after, guard⟩ := o
  subst ho
  have hf := hf w
  simp only [execOp, resolve, List.map_toArray, List.map_cons, List.map_nil, e0, e1]
  go_simp
  try exact hf
theorem q_call3 {f : FuncId} {tys : Array TypeId} {x0 : Operand} {u0 : Value} {x1 : Operand} {u1 : Value} {x2 : Operand} {u2 : Value} {v : Value} (ho : o.op = .call { callee := .value (.func f), args := #[x0, x1, x2], argTypes := tys }) (e0 : a.eval x0 = u0) (e1 : a.eval x1 = u1) (e2 : a.eval x2 = u2) (hf : ∀ w, (callFunc f #[u0, u1, u2]).run Tryz.prog w = .ok (.enter f #[u0, u1, u2]) w)
    (hc : ∀ w, C w → Calls Tryz.prog f #[u0, u1, u2] w fun e w' => e = .returned v ∧ C w') (hK : K (a.put o.dst v)) : o.quiet Tryz.prog a C K := by
  refine q_enter (v := v) (f := f) (args := #[u0, u1, u2]) (fun w => ?_) hc hK
  obtain ⟨dst, op, ty, pos, after, guard⟩ := o
  subst ho
  have hf := hf w
  simp only [execOp, resolve, List.map_toArray, List.map_cons, List.map_nil, e0, e1, e2]
  go_simp
  try exact hf
theorem q_call4 {f : FuncId} {tys : Array TypeId} {x0 : Operand} {u0 : Value} {x1 : Operand} {u1 : Value} {x2 : Operand} {u2 : Value} {x3 : Operand} {u3 : Value} {v : Value} (ho : o.op = .call { callee := .value (.func f), args := #[x0, x1, x2, x3], argTypes := tys }) (e0 : a.eval x0 = u0) (e1 : a.eval x1 = u1) (e2 : a.eval x2 = u2) (e3 : a.eval x3 = u3) (hf : ∀ w, (callFunc f #[u0, u1, u2, u3]).run Tryz.prog w = .ok (.enter f #[u0, u1, u2, u3]) w)
    (hc : ∀ w, C w → Calls Tryz.prog f #[u0, u1, u2, u3] w fun e w' => e = .returned v ∧ C w') (hK : K (a.put o.dst v)) : o.quiet Tryz.prog a C K := by
  refine q_enter (v := v) (f := f) (args := #[u0, u1, u2, u3]) (fun w => ?_) hc hK
  obtain ⟨dst, op, ty, pos, after, guard⟩ := o
  subst ho
  have hf := hf w
  simp only [execOp, resolve, List.map_toArray, List.map_cons, List.map_nil, e0, e1, e2, e3]
  go_simp
  try exact hf
theorem q_call5 {f : FuncId} {tys : Array TypeId} {x0 : Operand} {u0 : Value} {x1 : Operand} {u1 : Value} {x2 : Operand} {u2 : Value} {x3 : Operand} {u3 : Value} {x4 : Operand} {u4 : Value} {v : Value} (ho : o.op = .call { callee := .value (.func f), args := #[x0, x1, x2, x3, x4], argTypes := tys }) (e0 : a.eval x0 = u0) (e1 : a.eval x1 = u1) (e2 : a.eval x2 = u2) (e3 : a.eval x3 = u3) (e4 : a.eval x4 = u4) (hf : ∀ w, (callFunc f #[u0, u1, u2, u3, u4]).run Tryz.prog w = .ok (.enter f #[u0, u1, u2, u3, u4]) w)
    (hc : ∀ w, C w → Calls Tryz.prog f #[u0, u1, u2, u3, u4] w fun e w' => e = .returned v ∧ C w') (hK : K (a.put o.dst v)) : o.quiet Tryz.prog a C K := by
  refine q_enter (v := v) (f := f) (args := #[u0, u1, u2, u3, u4]) (fun w => ?_) hc hK
  obtain ⟨dst, op, ty, pos, after, guard⟩ := o
  subst ho
  have hf := hf w
  simp only [execOp, resolve, List.map_toArray, List.map_cons, List.map_nil, e0, e1, e2, e3, e4]
  go_simp
  try exact hf
end
/-- A contract that holds in every world that has grown out of W. -/
theorem grc {f : FuncId} {args : Array Value} {v v' : Value} {W : World} (h : ∀ w, Calls Tryz.prog f args w fun e w' => e = .returned v ∧ Gr w w') (hv : v = v') : ∀ w, Gr W w → Calls Tryz.prog f args w fun e w' => e = .returned v' ∧ Gr W w' := fun w hw => (h w).mono fun e w' k => ⟨hv ▸ k.1, hw.trans k.2⟩
end Go.Proofs.YtekenpgagfmgkabGreat
end
