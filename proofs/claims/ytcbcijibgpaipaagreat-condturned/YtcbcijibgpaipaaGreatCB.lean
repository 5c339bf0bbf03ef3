/- Towards the statements of package bound (layer 5): a bound's cells as one word; the calls' contracts in that word. -/
import Derived.Test.YtcbcijibgpaipaaGreatMJ
import Derived.Test.YtcbcijibgpaipaaGreatMK
import Derived.Test.YtcbcijibgpaipaaGreatBI
import Derived.Test.YtcbcijibgpaipaaGreatBL
import Derived.Test.YtcbcijibgpaipaaGreatBX
import Derived.Test.YtcbcijibgpaipaaGreatBY
namespace Go.Proofs.YtcbcijibgpaipaaGreat
open Go.ChangeShapes Go.WideShapes Go.ChangeAt Go.RowKit
open Tn (iv)
set_option linter.unusedVariables false

/-- A bound's ten cells. -/
def bv (b : Bd) : Array Value := #[.int .u64 (iv b.tv), .int .u64 (iv b.tm), .int .u64 b.ul, .int .u64 b.uh, .int .i64 b.sl, .int .i64 b.sh, .int .u64 b.wl, .int .u64 b.wh, .int .i64 b.vl, .int .i64 b.vh]
def zeroM : Bd := ⟨0#64, 0#64, 0, 0, 0, 0, 0, 0, 0, 0⟩
section
variable {o : Oper} {a : Act} {w : World} {K : Act → World → Prop} {Q : Exit → Act → World → Prop} {p x : Operand} {b : Nat} {c d : Bd}
theorem wp_loadB (ho : o.op = .load 30 p) (hp : a.eval p = .pointer (some ⟨b, 0, none⟩)) (h : AtA w b (bv d) 30) (hK : K (a.put o.dst (.agg (bv d))) w) : o.wp Tryz.prog a w K Q :=
  wp_load_bound ho hp h hK
theorem wp_storeB (ho : o.op = .store 30 p x) (hp : a.eval p = .pointer (some ⟨b, 0, none⟩)) (hx : a.eval x = .agg (bv d)) (h : AtA w b (bv c) 30)
    (hK : ∀ w', AtA w' b (bv d) 30 → GrX b w w' → K (a.put o.dst undef) w') : o.wp Tryz.prog a w K Q :=
  wp_store_bound ho hp hx h hK
theorem wp_allocB (ho : o.op = .alloc 30)
    (hK : ∀ w', AtA w' w.heap.size (bv zeroM) 30 → Gr w w' → K (a.put o.dst (.pointer (some ⟨w.heap.size, 0, none⟩))) w') : o.wp Tryz.prog a w K Q :=
  wp_alloc_bound ho (hK _ (AtA.newb _ rfl _ _) (Gr.alloc (Gr.refl w) _ _))
end
section
variable (a b : Bd) (x : BitVec 64) (w : World)
theorem k_sync (g : Good a) : Calls Tryz.prog 11 #[.agg (bv a)] w fun e w' => e = .returned (.agg (bv (syncM a))) ∧ Gr w w' :=
  sync_any a ⟨g.u0, Int.le_trans g.u1 g.u2⟩ ⟨Int.le_trans g.u0 g.u1, g.u2⟩ ⟨g.s0, Int.le_trans g.s1 g.s2⟩ ⟨Int.le_trans g.s0 g.s1, g.s2⟩ w
theorem k_has : Calls Tryz.prog 18 #[.agg (bv a), .int .u64 (iv x)] w fun e w' => e = .returned (.bool (hasM a x)) ∧ Gr w w' :=
  has_all a.tv a.tm a.ul a.uh a.sl a.sh a.wl a.wh a.vl a.vh x w
theorem k_in : Calls Tryz.prog 19 #[.agg (bv a), .agg (bv b)] w fun e w' => e = .returned (.bool (inM a b)) ∧ Gr w w' := by
  refine (in_all a.tv a.tm a.ul a.uh a.sl a.sh a.wl a.wh a.vl a.vh b.tv b.tm b.ul b.uh b.sl b.sh b.wl b.wh b.vl b.vh w).mono ?_
  rintro e w' ⟨rfl, hg⟩
  refine ⟨?_, hg⟩
  simp only [inM, inR, nnB, nn, Bool.and_assoc]
theorem k_none : Calls Tryz.prog 15 #[.agg (bv a)] w fun e w' => e = .returned (.bool (nnB a)) ∧ Gr w w' :=
  None_any a.tv a.tm a.ul a.uh a.sl a.sh a.wl a.wh a.vl a.vh w
theorem k_const : Calls Tryz.prog 13 #[.int .u64 (iv x)] w fun e w' => e = .returned (.agg (bv (constM x))) ∧ Gr w w' := const_any x w
theorem k_any : Calls Tryz.prog 59 #[] w fun e w' => e = .returned (.agg (bv anyM)) ∧ Gr w w' := any_any w
end
/-- What a bound about a number is told by. -/
structure Ab where
  ma : BitVec 64
  dn : Int
  up : Int
  ls : Int
  mo : Int
  hf : Int
  tp : Int
structure AbOk (v : Ab) : Prop where
  dn : InU v.dn
  up : InU v.up
  ls : InU v.ls
  mo : InU v.mo
  hf : 0 ≤ v.hf ∧ v.hf ≤ 4294967295
  tp : 0 ≤ v.tp ∧ v.tp ≤ 4294967295
def av (v : Ab) : Array Value := #[.int .u64 (iv v.ma), .int .u64 v.dn, .int .u64 v.up, .int .u64 v.ls, .int .u64 v.mo, .int .u32 v.hf, .int .u32 v.tp]
theorem k_of (v : Ab) (h : AbOk v) (x : BitVec 64) (w : World) : Calls Tryz.prog 23 #[.agg (av v), .int .u64 (iv x)] w fun e w' => ∃ b : Bd, Good b ∧ Has b x ∧ e = .returned (.agg (bv b)) ∧ Gr w w' :=
  of_any v.ma x v.dn v.up v.ls v.mo v.hf v.tp h.dn h.up h.ls h.mo h.hf h.tp w
theorem wp_loadA {o : Oper} {a : Act} {w : World} {K : Act → World → Prop} {Q : Exit → Act → World → Prop} {p : Operand} {b : Nat} {v : Ab} (ho : o.op = .load 43 p) (hp : a.eval p = .pointer (some ⟨b, 0, none⟩)) (h : AtA w b (av v) 43) (hK : K (a.put o.dst (.agg (av v))) w) : o.wp Tryz.prog a w K Q :=
  wp_load_about ho hp h hK
end Go.Proofs.YtcbcijibgpaipaaGreat
