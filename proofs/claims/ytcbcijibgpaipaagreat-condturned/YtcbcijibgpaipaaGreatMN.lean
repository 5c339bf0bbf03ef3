/- Function values, slices of them, and other operations, one step each. Quiet operations, one step each. -/
import Derived.Test.YtcbcijibgpaipaaGreatW3
section
namespace Go.Proofs.YtcbcijibgpaipaaGreat
open Go.ChangeShapes Go.WideShapes Go.ChangeAt Go.RowKit
open Tn (iv)
set_option linter.unusedVariables false
set_option linter.unusedSimpArgs false
set_option maxRecDepth 20000
theorem wp_eqT {o : Oper} {a : Act} {w : World} {K : Act → World → Prop} {Q : Exit → Act → World → Prop} {x y : Operand} {n0 n1 m0 m1 : Int} {r : Bool} (ho : o.op = .binOp .eql 24 x y 24) (hx : a.eval x = .agg #[.int .u64 n0, .int .u64 n1]) (hy : a.eval y = .agg #[.int .u64 m0, .int .u64 m1]) (hr : (n0 == m0 && n1 == m1) = r) (hK : K (a.put o.dst (.bool r)) w) : o.wp Tryz.prog a w K Q := by
  obtain ⟨dst, op, ty, pos, after, guard⟩ := o
  subst ho
  unfold Oper.wp
  simp only [execOp, hx, hy]
  go_simp
  by_cases e0 : n0 = m0
  · rw [if_pos e0]
    by_cases e1 : n1 = m1
    · rw [if_pos e1]
      rw [show (n0 == m0 && n1 == m1) = true by simp [e0, e1]] at hr
      subst hr
      exact hK
    · rw [if_neg e1]
      rw [show (n0 == m0 && n1 == m1) = false by simp [e1]] at hr
      subst hr
      exact hK
  · rw [if_neg e0]
    rw [show (n0 == m0 && n1 == m1) = false by simp [e0]] at hr
    subst hr
    exact hK
theorem wp_mf2 {o : Oper} {a : Act} {w : World} {K : Act → World → Prop} {Q : Exit → Act → World → Prop} {x y : Operand} {u v : Value} {f : FuncId} (ho : o.op = .makeFunc (.func f) #[] #[x, y]) (h0 : a.eval x = u) (h1 : a.eval y = v) (hK : K (a.put o.dst (.func (.func f) #[] #[u, v])) w) : o.wp Tryz.prog a w K Q := by
  obtain ⟨dst, op, ty, pos, after, guard⟩ := o
  subst ho
  unfold Oper.wp
  simp only [execOp, List.map_toArray, List.map_cons, List.map_nil, h0, h1]
  go_simp
  exact hK
theorem wp_bs_order {o : Oper} {a : Act} {w : World} {K : Act → World → Prop} {Q : Exit → Act → World → Prop} {x y : Operand} {f g : Fn} {c d e h : Array Value} (ho : o.op = .buildSlice 187 2 #[(0, x), (1, y)]) (hx : a.eval x = .func f c d) (hy : a.eval y = .func g e h) (hK : ∀ w', AtA w' w.heap.size #[.func f c d, .func g e h] 186 → Gr w w' → K (a.put o.dst (.slice (some ⟨w.heap.size, 0, none⟩) 2 2)) w') : o.wp Tryz.prog a w K Q := by
  have H := hK _ (AtA.newb w rfl #[.func f c d, .func g e h] 186) (Gr.alloc (Gr.refl w) _ _)
  obtain ⟨dst, op, ty, pos, after, guard⟩ := o
  subst ho
  unfold Oper.wp
  simp only [execOp, List.map_toArray, List.map_cons, List.map_nil, hx, hy]
  go_simp
  exact H
theorem wp_ia_order0 {o : Oper} {a : Act} {w : World} {K : Act → World → Prop} {Q : Exit → Act → World → Prop} {x y : Operand} {b : Nat} (ho : o.op = .indexAddr 187 x y) (h0 : a.eval x = .slice (some ⟨b, 0, none⟩) 2 2) (h1 : a.eval y = .int .i64 0) (hK : K (a.put o.dst (.pointer (some ⟨b, 0, none⟩))) w) : o.wp Tryz.prog a w K Q := by
  obtain ⟨dst, op, ty, pos, after, guard⟩ := o
  subst ho
  unfold Oper.wp
  simp only [execOp, List.map_toArray, List.map_cons, List.map_nil, h0, h1]
  go_simp
  exact hK
theorem wp_ia_order1 {o : Oper} {a : Act} {w : World} {K : Act → World → Prop} {Q : Exit → Act → World → Prop} {x y : Operand} {b : Nat} (ho : o.op = .indexAddr 187 x y) (h0 : a.eval x = .slice (some ⟨b, 0, none⟩) 2 2) (h1 : a.eval y = .int .i64 1) (hK : K (a.put o.dst (.pointer (some ⟨b, 1, none⟩))) w) : o.wp Tryz.prog a w K Q := by
  obtain ⟨dst, op, ty, pos, after, guard⟩ := o
  subst ho
  unfold Oper.wp
  simp only [execOp, List.map_toArray, List.map_cons, List.map_nil, h0, h1]
  go_simp
  exact hK
theorem wp_fnil {o : Oper} {a : Act} {w : World} {K : Act → World → Prop} {Q : Exit → Act → World → Prop} {x : Operand} {f : Fn} {c d : Array Value} (ho : o.op = .binOp .eql 102 x (.const .nilFunc) 102) (h0 : a.eval x = .func f c d) (hK : K (a.put o.dst (.bool false)) w) : o.wp Tryz.prog a w K Q := by
  obtain ⟨dst, op, ty, pos, after, guard⟩ := o
  subst ho
  unfold Oper.wp
  simp only [execOp, List.map_toArray, List.map_cons, List.map_nil, h0]
  go_simp
  exact hK
theorem wp_callv2 {o : Oper} {a : Act} {w : World} {K : Act → World → Prop} {Q : Exit → Act → World → Prop} {f : FuncId} {cs : Array Value} {tys : Array TypeId} {x x0 x1 : Operand} {u0 u1 : Value} (ho : o.op = .call { callee := .value x, args := #[x0, x1], argTypes := tys }) (hx : a.eval x = .func (.func f) #[] cs) (e0 : a.eval x0 = u0) (e1 : a.eval x1 = u1) (hf : (callFunc f (#[u0, u1] ++ cs)).run Tryz.prog w = .ok (.enter f (#[u0, u1] ++ cs)) w)
    (hK : Calls Tryz.prog f (#[u0, u1] ++ cs) w fun e w' => ∃ v, e = .returned v ∧ K (a.put o.dst v) w') : o.wp Tryz.prog a w K Q := by
  obtain ⟨dst, op, ty, pos, after, guard⟩ := o
  subst ho
  have H : (execOp a.eval { dst := dst, op := .call { callee := .value x, args := #[x0, x1], argTypes := tys }, type := ty, pos := pos, after := after, guard := guard }).run Tryz.prog w = .ok (.enter f (#[u0, u1] ++ cs)) w := by
    simp only [execOp, resolve, List.map_toArray, List.map_cons, List.map_nil, hx, e0, e1]
    go_simp
    try exact hf
  unfold Oper.wp
  rw [H]
  simp only [Oper.upon]
  refine hK.mono ?_
  rintro e w' ⟨v, rfl, hv⟩
  exact hv
/-- What a telling does with two bounds in memory. -/
def tellPost (p q : Nat) (t : Option (Bd × Bd)) (w : World) (e : Ending) (w' : World) : Prop := match t with
  | none => e = .returned (.bool false) ∧ GrL [p, q] w w'
  | some z => e = .returned (.bool true) ∧ AtA w' p (bv z.1) 30 ∧ AtA w' q (bv z.2) 30 ∧ GrL [p, q] w w'
end Go.Proofs.YtcbcijibgpaipaaGreat
end
section
namespace Go.Proofs.YtcbcijibgpaipaaGreat
open Go.ChangeShapes Go.WideShapes Go.ChangeAt Go.RowKit
set_option linter.unusedVariables false
set_option linter.unusedSimpArgs false
set_option maxRecDepth 20000
theorem q_free {P : Program} {ops : Array Oper} {C : World → Prop} {Q : Act → Prop} {o : Oper} {rest : List Oper} {a : Act} (hg : o.guard = none) (h : o.quiet P a C (wpQuiet P ops C Q rest)) : wpQuiet P ops C Q (o :: rest) a :=
  q_do (by unfold Region.wanted; rw [hg]) h
theorem q_ld_bool {o : Oper} {a : Act} {C : World → Prop} {K : Act → Prop} {x : Operand} {b o0 : Nat} {cs : Array Value} {t : TypeId} {v : Value} (ho : o.op = .load 4 x) (hp : a.eval x = .pointer (some ⟨b, o0, none⟩)) (h : ∀ w, C w → AtA w b cs t) (h0 : cs[o0]? = some v) (hK : K (a.put o.dst v)) : o.quiet Tryz.prog a C K := by
  refine q_run (v := v) (fun w hw => ?_) hK
  obtain ⟨dst, op, ty, pos, after, guard⟩ := o
  subst ho
  have d0 := ((h w hw).cell o0).trans h0
  simp only [execOp, hp]
  go_simp
theorem q_cv_u640 {o : Oper} {a : Act} {C : World → Prop} {K : Act → Prop} {x : Operand} (ho : o.op = .convert 5 22 x) (hx : a.eval x = .int .u8 0) (hK : K (a.put o.dst (.int .u64 0))) : o.quiet Tryz.prog a C K := by
  refine q_run (v := .int .u64 0) (fun w hw => ?_) hK
  obtain ⟨dst, op, ty, pos, after, guard⟩ := o
  subst ho
  simp only [execOp, hx]
  go_simp
  try rfl
theorem q_cv_u641 {o : Oper} {a : Act} {C : World → Prop} {K : Act → Prop} {x : Operand} (ho : o.op = .convert 5 22 x) (hx : a.eval x = .int .u8 1) (hK : K (a.put o.dst (.int .u64 1))) : o.quiet Tryz.prog a C K := by
  refine q_run (v := .int .u64 1) (fun w hw => ?_) hK
  obtain ⟨dst, op, ty, pos, after, guard⟩ := o
  subst ho
  simp only [execOp, hx]
  go_simp
  try rfl
theorem q_cv_i640 {o : Oper} {a : Act} {C : World → Prop} {K : Act → Prop} {x : Operand} (ho : o.op = .convert 5 2 x) (hx : a.eval x = .int .u8 0) (hK : K (a.put o.dst (.int .i64 0))) : o.quiet Tryz.prog a C K := by
  refine q_run (v := .int .i64 0) (fun w hw => ?_) hK
  obtain ⟨dst, op, ty, pos, after, guard⟩ := o
  subst ho
  simp only [execOp, hx]
  go_simp
  try rfl
theorem q_cv_i641 {o : Oper} {a : Act} {C : World → Prop} {K : Act → Prop} {x : Operand} (ho : o.op = .convert 5 2 x) (hx : a.eval x = .int .u8 1) (hK : K (a.put o.dst (.int .i64 1))) : o.quiet Tryz.prog a C K := by
  refine q_run (v := .int .i64 1) (fun w hw => ?_) hK
  obtain ⟨dst, op, ty, pos, after, guard⟩ := o
  subst ho
  simp only [execOp, hx]
  go_simp
  try rfl
theorem wp_c_ul {o : Oper} {a : Act} {w : World} {K : Act → World → Prop} {Q : Exit → Act → World → Prop} {p x : Operand} {b : Nat} {d : Bd} {n : Int} (ho : o.op = .store 22 p x) (hp : a.eval p = .pointer (some ⟨b, 2, none⟩)) (hx : a.eval x = .int .u64 n) (h : AtA w b (bv d) 30)
    (hK : ∀ w', AtA w' b (bv { d with ul := n }) 30 → GrX b w w' → K (a.put o.dst undef) w') : o.wp Tryz.prog a w K Q :=
  wp_sc_uint64 ho hp hx h rfl (fun w' h1 h2 => hK w' (by simpa [bv] using h1) h2)
theorem wp_c_uh {o : Oper} {a : Act} {w : World} {K : Act → World → Prop} {Q : Exit → Act → World → Prop} {p x : Operand} {b : Nat} {d : Bd} {n : Int} (ho : o.op = .store 22 p x) (hp : a.eval p = .pointer (some ⟨b, 3, none⟩)) (hx : a.eval x = .int .u64 n) (h : AtA w b (bv d) 30)
    (hK : ∀ w', AtA w' b (bv { d with uh := n }) 30 → GrX b w w' → K (a.put o.dst undef) w') : o.wp Tryz.prog a w K Q :=
  wp_sc_uint64 ho hp hx h rfl (fun w' h1 h2 => hK w' (by simpa [bv] using h1) h2)
theorem wp_c_sl {o : Oper} {a : Act} {w : World} {K : Act → World → Prop} {Q : Exit → Act → World → Prop} {p x : Operand} {b : Nat} {d : Bd} {n : Int} (ho : o.op = .store 2 p x) (hp : a.eval p = .pointer (some ⟨b, 4, none⟩)) (hx : a.eval x = .int .i64 n) (h : AtA w b (bv d) 30)
    (hK : ∀ w', AtA w' b (bv { d with sl := n }) 30 → GrX b w w' → K (a.put o.dst undef) w') : o.wp Tryz.prog a w K Q :=
  wp_sc_int64 ho hp hx h rfl (fun w' h1 h2 => hK w' (by simpa [bv] using h1) h2)
theorem wp_c_sh {o : Oper} {a : Act} {w : World} {K : Act → World → Prop} {Q : Exit → Act → World → Prop} {p x : Operand} {b : Nat} {d : Bd} {n : Int} (ho : o.op = .store 2 p x) (hp : a.eval p = .pointer (some ⟨b, 5, none⟩)) (hx : a.eval x = .int .i64 n) (h : AtA w b (bv d) 30)
    (hK : ∀ w', AtA w' b (bv { d with sh := n }) 30 → GrX b w w' → K (a.put o.dst undef) w') : o.wp Tryz.prog a w K Q :=
  wp_sc_int64 ho hp hx h rfl (fun w' h1 h2 => hK w' (by simpa [bv] using h1) h2)
theorem wp_c_wl {o : Oper} {a : Act} {w : World} {K : Act → World → Prop} {Q : Exit → Act → World → Prop} {p x : Operand} {b : Nat} {d : Bd} {n : Int} (ho : o.op = .store 22 p x) (hp : a.eval p = .pointer (some ⟨b, 6, none⟩)) (hx : a.eval x = .int .u64 n) (h : AtA w b (bv d) 30)
    (hK : ∀ w', AtA w' b (bv { d with wl := n }) 30 → GrX b w w' → K (a.put o.dst undef) w') : o.wp Tryz.prog a w K Q :=
  wp_sc_uint64 ho hp hx h rfl (fun w' h1 h2 => hK w' (by simpa [bv] using h1) h2)
theorem wp_c_wh {o : Oper} {a : Act} {w : World} {K : Act → World → Prop} {Q : Exit → Act → World → Prop} {p x : Operand} {b : Nat} {d : Bd} {n : Int} (ho : o.op = .store 22 p x) (hp : a.eval p = .pointer (some ⟨b, 7, none⟩)) (hx : a.eval x = .int .u64 n) (h : AtA w b (bv d) 30)
    (hK : ∀ w', AtA w' b (bv { d with wh := n }) 30 → GrX b w w' → K (a.put o.dst undef) w') : o.wp Tryz.prog a w K Q :=
  wp_sc_uint64 ho hp hx h rfl (fun w' h1 h2 => hK w' (by simpa [bv] using h1) h2)
theorem wp_c_vl {o : Oper} {a : Act} {w : World} {K : Act → World → Prop} {Q : Exit → Act → World → Prop} {p x : Operand} {b : Nat} {d : Bd} {n : Int} (ho : o.op = .store 2 p x) (hp : a.eval p = .pointer (some ⟨b, 8, none⟩)) (hx : a.eval x = .int .i64 n) (h : AtA w b (bv d) 30)
    (hK : ∀ w', AtA w' b (bv { d with vl := n }) 30 → GrX b w w' → K (a.put o.dst undef) w') : o.wp Tryz.prog a w K Q :=
  wp_sc_int64 ho hp hx h rfl (fun w' h1 h2 => hK w' (by simpa [bv] using h1) h2)
theorem wp_c_vh {o : Oper} {a : Act} {w : World} {K : Act → World → Prop} {Q : Exit → Act → World → Prop} {p x : Operand} {b : Nat} {d : Bd} {n : Int} (ho : o.op = .store 2 p x) (hp : a.eval p = .pointer (some ⟨b, 9, none⟩)) (hx : a.eval x = .int .i64 n) (h : AtA w b (bv d) 30)
    (hK : ∀ w', AtA w' b (bv { d with vh := n }) 30 → GrX b w w' → K (a.put o.dst undef) w') : o.wp Tryz.prog a w K Q :=
  wp_sc_int64 ho hp hx h rfl (fun w' h1 h2 => hK w' (by simpa [bv] using h1) h2)
end Go.Proofs.YtcbcijibgpaipaaGreat
end
