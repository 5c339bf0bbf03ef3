/- Towards the statements of package tnum (layer 3): the five statements of TnumLeast's inner loop, one by one: a row grows by a number. -/
import Derived.Test.YtkfjjpdcbdbdiaaTLe
namespace Go.Proofs.Ytkfjjpdcbdbdiaa
open Go.ChangeShapes Go.WideShapes Go.ChangeAt Go.RowKit
set_option linter.unusedVariables false
set_option maxRecDepth 100000

/-- A statement of a function, by its number. -/
def regOf (n : Nat) : Code → Option Code
  | .region id ops b => bif Nat.beq id n then some (.region id ops b) else none
  | .seq a b => match regOf n a with
    | some c => some c
    | none => regOf n b
  | .loop c => regOf n c
  | .block _ c => regOf n c
  | .scope c => regOf n c
  | .cond _ a b => match regOf n a with
    | some c => some c
    | none => regOf n b
  | _ => none
noncomputable def reg (n : Nat) : Code := (Try.f3.body.bind (regOf n)).getD .skip
set_option maxHeartbeats 8000000 in
theorem reg_0 (w wx : World) (B gp gq A cp cq k c : Nat) (P Q : List (BitVec 64)) (av zm bv zn x y : BitVec 64) (s : Nat → Value) (i0 : TypeInfo)
    (HI : Hid (Try.prog.info? 22 = some i0 ∧ i0.zero = some (.int .u64 0) ∧ i0.size = 1 ∧ i0.bytes = 8))
    (HS : Hid (St w wx B (B + 1) gp gq A (A + 1) P Q av zm bv zn (rowsN (fun j => Tn.pairs (opN j) (P.take k) Q) x Q c 0) s)) (hlp : P.length ≤ 16) (hlq : Q.length ≤ 16) (hwB : w.heap.size ≤ B) (hgp : gp < B) (hgq : gq < B) (hA : A < B) (hA1 : A + 1 < B)
    (k1 : (k : Int) < (P.length : Int)) (q1 : (c : Int) < (Q.length : Int)) (HX : Hid (P[k]? = some x)) (HY : Hid (Q[c]? = some y))
    (c0 c1 c2 c3 c4 c5 c6 c7 c8 c9 c10 c16 c17 c18 c19 c20 c21 c22 c23 c24 c25 c26 c27 c28 c29 c30 c31 c32 c33 c34 c35 c36 c37 c38 c39 c40 c41 c42 c43 c44 c45 c46 c47 c48 c49 c50 c51 c52 c53 c54 c55 c56 c57 c58 c59 c60 c61 c62 c63 c64 c65 c66 c67 c68 c69 c70 c71 c72 c73 c74 c75 c76 c77 c78 c79 c80 c81 c82 c83 c84 c85 c86 c87 c88 c89 c90 c91 c92 c93 c94 c95 c96 c97 c98 c99 c100 c101 c102 c103 c104 c105 c106 c107 c108 c109 c110 c111 c112 c113 c114 c115 c116 c117 c118 c119 c120 c121 c122 c123 c124 c125 c126 c127 c128 c129 c130 c131 c132 c133 c134 c135 c136 c137 c138 c139 c140 c141 c142 c143 c144 c145 c146 c147 c148 c149 c150 c151 c152 c153 c154 c155 c156 c157 c158 c159 c160 c161 c162 c163 c164 c165 c166 c167 c168 : Value) (Qp : Exit → Act → World → Prop)
    (hQ : ∀ (t41 t42 t43 t44 t45 t46 t47 t48 t49 t50 t51 t52 t53 t54 : Value) (w' : World) (s' : Nat → Value), St w w' B (B + 1) gp gq A (A + 1) P Q av zm bv zn (rowsN (fun j => Tn.pairs (opN j) (P.take k) Q) x Q c 1) s' → Qp .normal ⟨#[c0, c1, c2, c3, c4, c5, c6, c7, c8, c9, c10, .slice (some ⟨gp, 0, none⟩) P.length cp, .slice (some ⟨gq, 0, none⟩) Q.length cq, .pointer (some ⟨B, 0, none⟩), .int .i64 (k : Nat), .int .i64 (c : Nat), c16, c17, c18, c19, c20, c21, c22, c23, c24, c25, c26, c27, c28, c29, c30, c31, c32, c33, c34, c35, c36, c37, c38, c39, c40, t41, t42, t43, t44, t45, t46, t47, t48, t49, t50, t51, t52, t53, t54, c55, c56, c57, c58, c59, c60, c61, c62, c63, c64, c65, c66, c67, c68, c69, c70, c71, c72, c73, c74, c75, c76, c77, c78, c79, c80, c81, c82, c83, c84, c85, c86, c87, c88, c89, c90, c91, c92, c93, c94, c95, c96, c97, c98, c99, c100, c101, c102, c103, c104, c105, c106, c107, c108, c109, c110, c111, c112, c113, c114, c115, c116, c117, c118, c119, c120, c121, c122, c123, c124, c125, c126, c127, c128, c129, c130, c131, c132, c133, c134, c135, c136, c137, c138, c139, c140, c141, c142, c143, c144, c145, c146, c147, c148, c149, c150, c151, c152, c153, c154, c155, c156, c157, c158, c159, c160, c161, c162, c163, c164, c165, c166, c167, c168], []⟩ w') :
    Code.wp Try.prog (reg 10) Qp ⟨#[c0, c1, c2, c3, c4, c5, c6, c7, c8, c9, c10, .slice (some ⟨gp, 0, none⟩) P.length cp, .slice (some ⟨gq, 0, none⟩) Q.length cq, .pointer (some ⟨B, 0, none⟩), .int .i64 (k : Nat), .int .i64 (c : Nat), c16, c17, c18, c19, c20, c21, c22, c23, c24, c25, c26, c27, c28, c29, c30, c31, c32, c33, c34, c35, c36, c37, c38, c39, c40, c41, c42, c43, c44, c45, c46, c47, c48, c49, c50, c51, c52, c53, c54, c55, c56, c57, c58, c59, c60, c61, c62, c63, c64, c65, c66, c67, c68, c69, c70, c71, c72, c73, c74, c75, c76, c77, c78, c79, c80, c81, c82, c83, c84, c85, c86, c87, c88, c89, c90, c91, c92, c93, c94, c95, c96, c97, c98, c99, c100, c101, c102, c103, c104, c105, c106, c107, c108, c109, c110, c111, c112, c113, c114, c115, c116, c117, c118, c119, c120, c121, c122, c123, c124, c125, c126, c127, c128, c129, c130, c131, c132, c133, c134, c135, c136, c137, c138, c139, c140, c141, c142, c143, c144, c145, c146, c147, c148, c149, c150, c151, c152, c153, c154, c155, c156, c157, c158, c159, c160, c161, c162, c163, c164, c165, c166, c167, c168], []⟩ wx := by
  have HQ : Hid (∀ (t41 t42 t43 t44 t45 t46 t47 t48 t49 t50 t51 t52 t53 t54 : Value) (w' : World) (s' : Nat → Value), St w w' B (B + 1) gp gq A (A + 1) P Q av zm bv zn (rowsN (fun j => Tn.pairs (opN j) (P.take k) Q) x Q c 1) s' → Qp .normal ⟨#[c0, c1, c2, c3, c4, c5, c6, c7, c8, c9, c10, .slice (some ⟨gp, 0, none⟩) P.length cp, .slice (some ⟨gq, 0, none⟩) Q.length cq, .pointer (some ⟨B, 0, none⟩), .int .i64 (k : Nat), .int .i64 (c : Nat), c16, c17, c18, c19, c20, c21, c22, c23, c24, c25, c26, c27, c28, c29, c30, c31, c32, c33, c34, c35, c36, c37, c38, c39, c40, t41, t42, t43, t44, t45, t46, t47, t48, t49, t50, t51, t52, t53, t54, c55, c56, c57, c58, c59, c60, c61, c62, c63, c64, c65, c66, c67, c68, c69, c70, c71, c72, c73, c74, c75, c76, c77, c78, c79, c80, c81, c82, c83, c84, c85, c86, c87, c88, c89, c90, c91, c92, c93, c94, c95, c96, c97, c98, c99, c100, c101, c102, c103, c104, c105, c106, c107, c108, c109, c110, c111, c112, c113, c114, c115, c116, c117, c118, c119, c120, c121, c122, c123, c124, c125, c126, c127, c128, c129, c130, c131, c132, c133, c134, c135, c136, c137, c138, c139, c140, c141, c142, c143, c144, c145, c146, c147, c148, c149, c150, c151, c152, c153, c154, c155, c156, c157, c158, c159, c160, c161, c162, c163, c164, c165, c166, c167, c168], []⟩ w') := hQ
  clear hQ
  have k0 : (0 : Int) ≤ (k : Int) := by omega
  have q0 : (0 : Int) ≤ (c : Int) := by omega
  obtain ⟨n0, hn0⟩ : ∃ n0, (rowsN (fun j => Tn.pairs (opN j) (P.take k) Q) x Q c 0 0).length = n0 := ⟨_, rfl⟩
  have hn3 : n0 ≤ 300 := hn0 ▸ rows_len hlp hlq x k c 0 0
  obtain ⟨sv, hsv⟩ : ∃ sv, s 0 = sv := ⟨_, rfl⟩
  have cB := (HS.out.cell 0 (by omega)).1
  have fB := (HS.out.cell 0 (by omega)).2
  rw [hsv] at cB
  have cP := HS.out.rp k x HX.out
  have cQ := HS.out.rq c y HY.out
  have r0 := iv_add x y
  have HO : Hid ((wx.alloc (.cells #[.int .u64 (iv (x + y))] 22)).drew.ownsRow (B + 1) 22 1 sv n0 ((rowsN (fun j => Tn.pairs (opN j) (P.take k) Q) x Q c 0 0).map fun x => .int .u64 (iv x))) := by
    have := World.ownsRow.alloc (HS.out.own 0 (by omega)) (.cells #[.int .u64 (iv (x + y))] 22)
    rw [hn0, hsv] at this
    exact this
  have HN : Hid (∀ (q : Nat) (u : Value), [Value.int .u64 (iv (x + y))][q]? = some u → (wx.alloc (.cells #[.int .u64 (iv (x + y))] 22)).drew.cell? ((⟨wx.heap.size, 0, none⟩ : Addr).add q) = some u) := World.news_of_block (heap_alloc_new wx _)
  have HG : Hid (Gr w (wx.alloc (.cells #[.int .u64 (iv (x + y))] 22))) := HS.out.gr.alloc _ _
  have hsz := HS.out.sz
  have HOW : Hid (∀ q, sv.ownBlock = some q → B + 1 ≤ q ∧ q < wx.heap.size) := fun q hq => (HS.out.own 0 (by omega)).lt q (hsv ▸ hq)
  have HBL : Hid (B < (wx.alloc (.cells #[.int .u64 (iv (x + y))] 22)).drew.heap.size) := by show B < (wx.alloc (.cells #[.int .u64 (iv (x + y))] 22)).heap.size; simp; omega
  have HF0 : Hid ((wx.alloc (.cells #[.int .u64 (iv (x + y))] 22)).drew.frozen? ⟨B, 0, none⟩ = false) := (frozen?_alloc_cells wx _ _ _).trans fB
  have HC0 : Hid ((wx.alloc (.cells #[.int .u64 (iv (x + y))] 22)).drew.cell? ⟨B, 0, none⟩ = some sv) := cell_al cB
  have c0f : (wx.alloc (.cells #[.int .u64 (iv (x + y))] 22)).cell? ⟨B, 0, none⟩ = some sv := cell_al cB
  have c0d : (wx.alloc (.cells #[.int .u64 (iv (x + y))] 22)).drew.cell? ⟨B, 0, none⟩ = some sv := cell_al cB
  have nB : Hid (some B ≠ sv.ownBlock) := fun e => by have := HOW.out B e.symm; omega
  have HSV : Hid (s 0 = sv) := hsv
  have HN0 : Hid ((rowsN (fun j => Tn.pairs (opN j) (P.take k) Q) x Q c 0 0).length = n0) := hn0
  clear hsv hn0
  conv => arg 2; whnf
  refine wp_region_noPanic ?_
  go_region_law
    ((refine step_app _ (by rfl) _ _ _ (by rfl) (B + 1) 22 i0 (.int .u64 0) 1 8 Try.underlying27 HI.out.1 HI.out.2.1 HI.out.2.2.1 HI.out.2.2.2 rfl (by omega) sv n0 _ (by rfl) HO.out ⟨wx.heap.size, 0, none⟩ 1 1 [.int .u64 (iv (x + y))] (by rfl) (by rfl) HN.out (by simp [Value.oneCell']) (by omega) (by unfold maxLen; omega) (by omega) (by simp; omega) w (by repeat (first | exact HG.out | refine Gr.drew ?_)) (by omega) ?_; intro g2 cap2 w3 ho3 hgrow hat hG3; have f3 := (World.grownBy.frozen_far hgrow ⟨B, 0, none⟩ HBL.out nB.out).trans HF0.out; have c3 := World.grownBy.cell hgrow HC0.out nB.out))
  all_goals
    have hn := HN0.out
    have hs := HSV.out
    subst hn
    subst hs
    exact NoPanic.normal (HQ.out _ _ _ _ _ _ _ _ _ _ _ _ _ _ _ _ ((St.step HS.out hwB (by omega) (by omega) (by omega) (by omega) (by omega) (by omega) (by omega) (by omega) (by omega) 0 (by omega) (x + y) (w1 := wx.alloc (.cells #[.int .u64 (iv (x + y))] 22)) (fun q hq => Below.heap_alloc wx _ q hq) (by show wx.heap.size < (wx.alloc (.cells #[.int .u64 (iv (x + y))] 22)).heap.size; simp) g2 cap2 ho3 ⟨hgrow.os, hgrow.tape, hgrow.output, hgrow.size, hgrow.block⟩ hat hG3).cong fun j _ => rows_step HY.out 0 j))
set_option maxHeartbeats 8000000 in
theorem reg_1 (w wx : World) (B gp gq A cp cq k c : Nat) (P Q : List (BitVec 64)) (av zm bv zn x y : BitVec 64) (s : Nat → Value) (i0 : TypeInfo)
    (HI : Hid (Try.prog.info? 22 = some i0 ∧ i0.zero = some (.int .u64 0) ∧ i0.size = 1 ∧ i0.bytes = 8))
    (HS : Hid (St w wx B (B + 1) gp gq A (A + 1) P Q av zm bv zn (rowsN (fun j => Tn.pairs (opN j) (P.take k) Q) x Q c 1) s)) (hlp : P.length ≤ 16) (hlq : Q.length ≤ 16) (hwB : w.heap.size ≤ B) (hgp : gp < B) (hgq : gq < B) (hA : A < B) (hA1 : A + 1 < B)
    (k1 : (k : Int) < (P.length : Int)) (q1 : (c : Int) < (Q.length : Int)) (HX : Hid (P[k]? = some x)) (HY : Hid (Q[c]? = some y))
    (c0 c1 c2 c3 c4 c5 c6 c7 c8 c9 c10 c16 c17 c18 c19 c20 c21 c22 c23 c24 c25 c26 c27 c28 c29 c30 c31 c32 c33 c34 c35 c36 c37 c38 c39 c40 c41 c42 c43 c44 c45 c46 c47 c48 c49 c50 c51 c52 c53 c54 c55 c56 c57 c58 c59 c60 c61 c62 c63 c64 c65 c66 c67 c68 c69 c70 c71 c72 c73 c74 c75 c76 c77 c78 c79 c80 c81 c82 c83 c84 c85 c86 c87 c88 c89 c90 c91 c92 c93 c94 c95 c96 c97 c98 c99 c100 c101 c102 c103 c104 c105 c106 c107 c108 c109 c110 c111 c112 c113 c114 c115 c116 c117 c118 c119 c120 c121 c122 c123 c124 c125 c126 c127 c128 c129 c130 c131 c132 c133 c134 c135 c136 c137 c138 c139 c140 c141 c142 c143 c144 c145 c146 c147 c148 c149 c150 c151 c152 c153 c154 c155 c156 c157 c158 c159 c160 c161 c162 c163 c164 c165 c166 c167 c168 : Value) (Qp : Exit → Act → World → Prop)
    (hQ : ∀ (t55 t56 t57 t58 t59 t60 t61 t62 t63 t64 t65 t66 t67 t68 : Value) (w' : World) (s' : Nat → Value), St w w' B (B + 1) gp gq A (A + 1) P Q av zm bv zn (rowsN (fun j => Tn.pairs (opN j) (P.take k) Q) x Q c 2) s' → Qp .normal ⟨#[c0, c1, c2, c3, c4, c5, c6, c7, c8, c9, c10, .slice (some ⟨gp, 0, none⟩) P.length cp, .slice (some ⟨gq, 0, none⟩) Q.length cq, .pointer (some ⟨B, 0, none⟩), .int .i64 (k : Nat), .int .i64 (c : Nat), c16, c17, c18, c19, c20, c21, c22, c23, c24, c25, c26, c27, c28, c29, c30, c31, c32, c33, c34, c35, c36, c37, c38, c39, c40, c41, c42, c43, c44, c45, c46, c47, c48, c49, c50, c51, c52, c53, c54, t55, t56, t57, t58, t59, t60, t61, t62, t63, t64, t65, t66, t67, t68, c69, c70, c71, c72, c73, c74, c75, c76, c77, c78, c79, c80, c81, c82, c83, c84, c85, c86, c87, c88, c89, c90, c91, c92, c93, c94, c95, c96, c97, c98, c99, c100, c101, c102, c103, c104, c105, c106, c107, c108, c109, c110, c111, c112, c113, c114, c115, c116, c117, c118, c119, c120, c121, c122, c123, c124, c125, c126, c127, c128, c129, c130, c131, c132, c133, c134, c135, c136, c137, c138, c139, c140, c141, c142, c143, c144, c145, c146, c147, c148, c149, c150, c151, c152, c153, c154, c155, c156, c157, c158, c159, c160, c161, c162, c163, c164, c165, c166, c167, c168], []⟩ w') :
    Code.wp Try.prog (reg 11) Qp ⟨#[c0, c1, c2, c3, c4, c5, c6, c7, c8, c9, c10, .slice (some ⟨gp, 0, none⟩) P.length cp, .slice (some ⟨gq, 0, none⟩) Q.length cq, .pointer (some ⟨B, 0, none⟩), .int .i64 (k : Nat), .int .i64 (c : Nat), c16, c17, c18, c19, c20, c21, c22, c23, c24, c25, c26, c27, c28, c29, c30, c31, c32, c33, c34, c35, c36, c37, c38, c39, c40, c41, c42, c43, c44, c45, c46, c47, c48, c49, c50, c51, c52, c53, c54, c55, c56, c57, c58, c59, c60, c61, c62, c63, c64, c65, c66, c67, c68, c69, c70, c71, c72, c73, c74, c75, c76, c77, c78, c79, c80, c81, c82, c83, c84, c85, c86, c87, c88, c89, c90, c91, c92, c93, c94, c95, c96, c97, c98, c99, c100, c101, c102, c103, c104, c105, c106, c107, c108, c109, c110, c111, c112, c113, c114, c115, c116, c117, c118, c119, c120, c121, c122, c123, c124, c125, c126, c127, c128, c129, c130, c131, c132, c133, c134, c135, c136, c137, c138, c139, c140, c141, c142, c143, c144, c145, c146, c147, c148, c149, c150, c151, c152, c153, c154, c155, c156, c157, c158, c159, c160, c161, c162, c163, c164, c165, c166, c167, c168], []⟩ wx := by
  have HQ : Hid (∀ (t55 t56 t57 t58 t59 t60 t61 t62 t63 t64 t65 t66 t67 t68 : Value) (w' : World) (s' : Nat → Value), St w w' B (B + 1) gp gq A (A + 1) P Q av zm bv zn (rowsN (fun j => Tn.pairs (opN j) (P.take k) Q) x Q c 2) s' → Qp .normal ⟨#[c0, c1, c2, c3, c4, c5, c6, c7, c8, c9, c10, .slice (some ⟨gp, 0, none⟩) P.length cp, .slice (some ⟨gq, 0, none⟩) Q.length cq, .pointer (some ⟨B, 0, none⟩), .int .i64 (k : Nat), .int .i64 (c : Nat), c16, c17, c18, c19, c20, c21, c22, c23, c24, c25, c26, c27, c28, c29, c30, c31, c32, c33, c34, c35, c36, c37, c38, c39, c40, c41, c42, c43, c44, c45, c46, c47, c48, c49, c50, c51, c52, c53, c54, t55, t56, t57, t58, t59, t60, t61, t62, t63, t64, t65, t66, t67, t68, c69, c70, c71, c72, c73, c74, c75, c76, c77, c78, c79, c80, c81, c82, c83, c84, c85, c86, c87, c88, c89, c90, c91, c92, c93, c94, c95, c96, c97, c98, c99, c100, c101, c102, c103, c104, c105, c106, c107, c108, c109, c110, c111, c112, c113, c114, c115, c116, c117, c118, c119, c120, c121, c122, c123, c124, c125, c126, c127, c128, c129, c130, c131, c132, c133, c134, c135, c136, c137, c138, c139, c140, c141, c142, c143, c144, c145, c146, c147, c148, c149, c150, c151, c152, c153, c154, c155, c156, c157, c158, c159, c160, c161, c162, c163, c164, c165, c166, c167, c168], []⟩ w') := hQ
  clear hQ
  have k0 : (0 : Int) ≤ (k : Int) := by omega
  have q0 : (0 : Int) ≤ (c : Int) := by omega
  obtain ⟨n0, hn0⟩ : ∃ n0, (rowsN (fun j => Tn.pairs (opN j) (P.take k) Q) x Q c 1 1).length = n0 := ⟨_, rfl⟩
  have hn3 : n0 ≤ 300 := hn0 ▸ rows_len hlp hlq x k c 1 1
  obtain ⟨sv, hsv⟩ : ∃ sv, s 1 = sv := ⟨_, rfl⟩
  have cB := (HS.out.cell 1 (by omega)).1
  have fB := (HS.out.cell 1 (by omega)).2
  rw [hsv] at cB
  have cP := HS.out.rp k x HX.out
  have cQ := HS.out.rq c y HY.out
  have r0 := iv_sub x y
  have HO : Hid ((wx.alloc (.cells #[.int .u64 (iv (x - y))] 22)).drew.ownsRow (B + 1) 22 1 sv n0 ((rowsN (fun j => Tn.pairs (opN j) (P.take k) Q) x Q c 1 1).map fun x => .int .u64 (iv x))) := by
    have := World.ownsRow.alloc (HS.out.own 1 (by omega)) (.cells #[.int .u64 (iv (x - y))] 22)
    rw [hn0, hsv] at this
    exact this
  have HN : Hid (∀ (q : Nat) (u : Value), [Value.int .u64 (iv (x - y))][q]? = some u → (wx.alloc (.cells #[.int .u64 (iv (x - y))] 22)).drew.cell? ((⟨wx.heap.size, 0, none⟩ : Addr).add q) = some u) := World.news_of_block (heap_alloc_new wx _)
  have HG : Hid (Gr w (wx.alloc (.cells #[.int .u64 (iv (x - y))] 22))) := HS.out.gr.alloc _ _
  have hsz := HS.out.sz
  have HOW : Hid (∀ q, sv.ownBlock = some q → B + 1 ≤ q ∧ q < wx.heap.size) := fun q hq => (HS.out.own 1 (by omega)).lt q (hsv ▸ hq)
  have HBL : Hid (B < (wx.alloc (.cells #[.int .u64 (iv (x - y))] 22)).drew.heap.size) := by show B < (wx.alloc (.cells #[.int .u64 (iv (x - y))] 22)).heap.size; simp; omega
  have HF0 : Hid ((wx.alloc (.cells #[.int .u64 (iv (x - y))] 22)).drew.frozen? ⟨B, 1, none⟩ = false) := (frozen?_alloc_cells wx _ _ _).trans fB
  have HC0 : Hid ((wx.alloc (.cells #[.int .u64 (iv (x - y))] 22)).drew.cell? ⟨B, 1, none⟩ = some sv) := cell_al cB
  have c0f : (wx.alloc (.cells #[.int .u64 (iv (x - y))] 22)).cell? ⟨B, 1, none⟩ = some sv := cell_al cB
  have c0d : (wx.alloc (.cells #[.int .u64 (iv (x - y))] 22)).drew.cell? ⟨B, 1, none⟩ = some sv := cell_al cB
  have nB : Hid (some B ≠ sv.ownBlock) := fun e => by have := HOW.out B e.symm; omega
  have HSV : Hid (s 1 = sv) := hsv
  have HN0 : Hid ((rowsN (fun j => Tn.pairs (opN j) (P.take k) Q) x Q c 1 1).length = n0) := hn0
  clear hsv hn0
  conv => arg 2; whnf
  refine wp_region_noPanic ?_
  go_region_law
    ((refine step_app _ (by rfl) _ _ _ (by rfl) (B + 1) 22 i0 (.int .u64 0) 1 8 Try.underlying27 HI.out.1 HI.out.2.1 HI.out.2.2.1 HI.out.2.2.2 rfl (by omega) sv n0 _ (by rfl) HO.out ⟨wx.heap.size, 0, none⟩ 1 1 [.int .u64 (iv (x - y))] (by rfl) (by rfl) HN.out (by simp [Value.oneCell']) (by omega) (by unfold maxLen; omega) (by omega) (by simp; omega) w (by repeat (first | exact HG.out | refine Gr.drew ?_)) (by omega) ?_; intro g2 cap2 w3 ho3 hgrow hat hG3; have f3 := (World.grownBy.frozen_far hgrow ⟨B, 1, none⟩ HBL.out nB.out).trans HF0.out; have c3 := World.grownBy.cell hgrow HC0.out nB.out))
  all_goals
    have hn := HN0.out
    have hs := HSV.out
    subst hn
    subst hs
    exact NoPanic.normal (HQ.out _ _ _ _ _ _ _ _ _ _ _ _ _ _ _ _ ((St.step HS.out hwB (by omega) (by omega) (by omega) (by omega) (by omega) (by omega) (by omega) (by omega) (by omega) 1 (by omega) (x - y) (w1 := wx.alloc (.cells #[.int .u64 (iv (x - y))] 22)) (fun q hq => Below.heap_alloc wx _ q hq) (by show wx.heap.size < (wx.alloc (.cells #[.int .u64 (iv (x - y))] 22)).heap.size; simp) g2 cap2 ho3 ⟨hgrow.os, hgrow.tape, hgrow.output, hgrow.size, hgrow.block⟩ hat hG3).cong fun j _ => rows_step HY.out 1 j))
set_option maxHeartbeats 8000000 in
theorem reg_2 (w wx : World) (B gp gq A cp cq k c : Nat) (P Q : List (BitVec 64)) (av zm bv zn x y : BitVec 64) (s : Nat → Value) (i0 : TypeInfo)
    (HI : Hid (Try.prog.info? 22 = some i0 ∧ i0.zero = some (.int .u64 0) ∧ i0.size = 1 ∧ i0.bytes = 8))
    (HS : Hid (St w wx B (B + 1) gp gq A (A + 1) P Q av zm bv zn (rowsN (fun j => Tn.pairs (opN j) (P.take k) Q) x Q c 2) s)) (hlp : P.length ≤ 16) (hlq : Q.length ≤ 16) (hwB : w.heap.size ≤ B) (hgp : gp < B) (hgq : gq < B) (hA : A < B) (hA1 : A + 1 < B)
    (k1 : (k : Int) < (P.length : Int)) (q1 : (c : Int) < (Q.length : Int)) (HX : Hid (P[k]? = some x)) (HY : Hid (Q[c]? = some y))
    (c0 c1 c2 c3 c4 c5 c6 c7 c8 c9 c10 c16 c17 c18 c19 c20 c21 c22 c23 c24 c25 c26 c27 c28 c29 c30 c31 c32 c33 c34 c35 c36 c37 c38 c39 c40 c41 c42 c43 c44 c45 c46 c47 c48 c49 c50 c51 c52 c53 c54 c55 c56 c57 c58 c59 c60 c61 c62 c63 c64 c65 c66 c67 c68 c69 c70 c71 c72 c73 c74 c75 c76 c77 c78 c79 c80 c81 c82 c83 c84 c85 c86 c87 c88 c89 c90 c91 c92 c93 c94 c95 c96 c97 c98 c99 c100 c101 c102 c103 c104 c105 c106 c107 c108 c109 c110 c111 c112 c113 c114 c115 c116 c117 c118 c119 c120 c121 c122 c123 c124 c125 c126 c127 c128 c129 c130 c131 c132 c133 c134 c135 c136 c137 c138 c139 c140 c141 c142 c143 c144 c145 c146 c147 c148 c149 c150 c151 c152 c153 c154 c155 c156 c157 c158 c159 c160 c161 c162 c163 c164 c165 c166 c167 c168 : Value) (Qp : Exit → Act → World → Prop)
    (hQ : ∀ (t69 t70 t71 t72 t73 t74 t75 t76 t77 t78 t79 t80 t81 t82 : Value) (w' : World) (s' : Nat → Value), St w w' B (B + 1) gp gq A (A + 1) P Q av zm bv zn (rowsN (fun j => Tn.pairs (opN j) (P.take k) Q) x Q c 3) s' → Qp .normal ⟨#[c0, c1, c2, c3, c4, c5, c6, c7, c8, c9, c10, .slice (some ⟨gp, 0, none⟩) P.length cp, .slice (some ⟨gq, 0, none⟩) Q.length cq, .pointer (some ⟨B, 0, none⟩), .int .i64 (k : Nat), .int .i64 (c : Nat), c16, c17, c18, c19, c20, c21, c22, c23, c24, c25, c26, c27, c28, c29, c30, c31, c32, c33, c34, c35, c36, c37, c38, c39, c40, c41, c42, c43, c44, c45, c46, c47, c48, c49, c50, c51, c52, c53, c54, c55, c56, c57, c58, c59, c60, c61, c62, c63, c64, c65, c66, c67, c68, t69, t70, t71, t72, t73, t74, t75, t76, t77, t78, t79, t80, t81, t82, c83, c84, c85, c86, c87, c88, c89, c90, c91, c92, c93, c94, c95, c96, c97, c98, c99, c100, c101, c102, c103, c104, c105, c106, c107, c108, c109, c110, c111, c112, c113, c114, c115, c116, c117, c118, c119, c120, c121, c122, c123, c124, c125, c126, c127, c128, c129, c130, c131, c132, c133, c134, c135, c136, c137, c138, c139, c140, c141, c142, c143, c144, c145, c146, c147, c148, c149, c150, c151, c152, c153, c154, c155, c156, c157, c158, c159, c160, c161, c162, c163, c164, c165, c166, c167, c168], []⟩ w') :
    Code.wp Try.prog (reg 12) Qp ⟨#[c0, c1, c2, c3, c4, c5, c6, c7, c8, c9, c10, .slice (some ⟨gp, 0, none⟩) P.length cp, .slice (some ⟨gq, 0, none⟩) Q.length cq, .pointer (some ⟨B, 0, none⟩), .int .i64 (k : Nat), .int .i64 (c : Nat), c16, c17, c18, c19, c20, c21, c22, c23, c24, c25, c26, c27, c28, c29, c30, c31, c32, c33, c34, c35, c36, c37, c38, c39, c40, c41, c42, c43, c44, c45, c46, c47, c48, c49, c50, c51, c52, c53, c54, c55, c56, c57, c58, c59, c60, c61, c62, c63, c64, c65, c66, c67, c68, c69, c70, c71, c72, c73, c74, c75, c76, c77, c78, c79, c80, c81, c82, c83, c84, c85, c86, c87, c88, c89, c90, c91, c92, c93, c94, c95, c96, c97, c98, c99, c100, c101, c102, c103, c104, c105, c106, c107, c108, c109, c110, c111, c112, c113, c114, c115, c116, c117, c118, c119, c120, c121, c122, c123, c124, c125, c126, c127, c128, c129, c130, c131, c132, c133, c134, c135, c136, c137, c138, c139, c140, c141, c142, c143, c144, c145, c146, c147, c148, c149, c150, c151, c152, c153, c154, c155, c156, c157, c158, c159, c160, c161, c162, c163, c164, c165, c166, c167, c168], []⟩ wx := by
  have HQ : Hid (∀ (t69 t70 t71 t72 t73 t74 t75 t76 t77 t78 t79 t80 t81 t82 : Value) (w' : World) (s' : Nat → Value), St w w' B (B + 1) gp gq A (A + 1) P Q av zm bv zn (rowsN (fun j => Tn.pairs (opN j) (P.take k) Q) x Q c 3) s' → Qp .normal ⟨#[c0, c1, c2, c3, c4, c5, c6, c7, c8, c9, c10, .slice (some ⟨gp, 0, none⟩) P.length cp, .slice (some ⟨gq, 0, none⟩) Q.length cq, .pointer (some ⟨B, 0, none⟩), .int .i64 (k : Nat), .int .i64 (c : Nat), c16, c17, c18, c19, c20, c21, c22, c23, c24, c25, c26, c27, c28, c29, c30, c31, c32, c33, c34, c35, c36, c37, c38, c39, c40, c41, c42, c43, c44, c45, c46, c47, c48, c49, c50, c51, c52, c53, c54, c55, c56, c57, c58, c59, c60, c61, c62, c63, c64, c65, c66, c67, c68, t69, t70, t71, t72, t73, t74, t75, t76, t77, t78, t79, t80, t81, t82, c83, c84, c85, c86, c87, c88, c89, c90, c91, c92, c93, c94, c95, c96, c97, c98, c99, c100, c101, c102, c103, c104, c105, c106, c107, c108, c109, c110, c111, c112, c113, c114, c115, c116, c117, c118, c119, c120, c121, c122, c123, c124, c125, c126, c127, c128, c129, c130, c131, c132, c133, c134, c135, c136, c137, c138, c139, c140, c141, c142, c143, c144, c145, c146, c147, c148, c149, c150, c151, c152, c153, c154, c155, c156, c157, c158, c159, c160, c161, c162, c163, c164, c165, c166, c167, c168], []⟩ w') := hQ
  clear hQ
  have k0 : (0 : Int) ≤ (k : Int) := by omega
  have q0 : (0 : Int) ≤ (c : Int) := by omega
  obtain ⟨n0, hn0⟩ : ∃ n0, (rowsN (fun j => Tn.pairs (opN j) (P.take k) Q) x Q c 2 2).length = n0 := ⟨_, rfl⟩
  have hn3 : n0 ≤ 300 := hn0 ▸ rows_len hlp hlq x k c 2 2
  obtain ⟨sv, hsv⟩ : ∃ sv, s 2 = sv := ⟨_, rfl⟩
  have cB := (HS.out.cell 2 (by omega)).1
  have fB := (HS.out.cell 2 (by omega)).2
  rw [hsv] at cB
  have cP := HS.out.rp k x HX.out
  have cQ := HS.out.rq c y HY.out
  have r0 := iv_and x y
  have HO : Hid ((wx.alloc (.cells #[.int .u64 (iv (x &&& y))] 22)).drew.ownsRow (B + 1) 22 1 sv n0 ((rowsN (fun j => Tn.pairs (opN j) (P.take k) Q) x Q c 2 2).map fun x => .int .u64 (iv x))) := by
    have := World.ownsRow.alloc (HS.out.own 2 (by omega)) (.cells #[.int .u64 (iv (x &&& y))] 22)
    rw [hn0, hsv] at this
    exact this
  have HN : Hid (∀ (q : Nat) (u : Value), [Value.int .u64 (iv (x &&& y))][q]? = some u → (wx.alloc (.cells #[.int .u64 (iv (x &&& y))] 22)).drew.cell? ((⟨wx.heap.size, 0, none⟩ : Addr).add q) = some u) := World.news_of_block (heap_alloc_new wx _)
  have HG : Hid (Gr w (wx.alloc (.cells #[.int .u64 (iv (x &&& y))] 22))) := HS.out.gr.alloc _ _
  have hsz := HS.out.sz
  have HOW : Hid (∀ q, sv.ownBlock = some q → B + 1 ≤ q ∧ q < wx.heap.size) := fun q hq => (HS.out.own 2 (by omega)).lt q (hsv ▸ hq)
  have HBL : Hid (B < (wx.alloc (.cells #[.int .u64 (iv (x &&& y))] 22)).drew.heap.size) := by show B < (wx.alloc (.cells #[.int .u64 (iv (x &&& y))] 22)).heap.size; simp; omega
  have HF0 : Hid ((wx.alloc (.cells #[.int .u64 (iv (x &&& y))] 22)).drew.frozen? ⟨B, 2, none⟩ = false) := (frozen?_alloc_cells wx _ _ _).trans fB
  have HC0 : Hid ((wx.alloc (.cells #[.int .u64 (iv (x &&& y))] 22)).drew.cell? ⟨B, 2, none⟩ = some sv) := cell_al cB
  have c0f : (wx.alloc (.cells #[.int .u64 (iv (x &&& y))] 22)).cell? ⟨B, 2, none⟩ = some sv := cell_al cB
  have c0d : (wx.alloc (.cells #[.int .u64 (iv (x &&& y))] 22)).drew.cell? ⟨B, 2, none⟩ = some sv := cell_al cB
  have nB : Hid (some B ≠ sv.ownBlock) := fun e => by have := HOW.out B e.symm; omega
  have HSV : Hid (s 2 = sv) := hsv
  have HN0 : Hid ((rowsN (fun j => Tn.pairs (opN j) (P.take k) Q) x Q c 2 2).length = n0) := hn0
  clear hsv hn0
  conv => arg 2; whnf
  refine wp_region_noPanic ?_
  go_region_law
    ((refine step_app _ (by rfl) _ _ _ (by rfl) (B + 1) 22 i0 (.int .u64 0) 1 8 Try.underlying27 HI.out.1 HI.out.2.1 HI.out.2.2.1 HI.out.2.2.2 rfl (by omega) sv n0 _ (by rfl) HO.out ⟨wx.heap.size, 0, none⟩ 1 1 [.int .u64 (iv (x &&& y))] (by rfl) (by rfl) HN.out (by simp [Value.oneCell']) (by omega) (by unfold maxLen; omega) (by omega) (by simp; omega) w (by repeat (first | exact HG.out | refine Gr.drew ?_)) (by omega) ?_; intro g2 cap2 w3 ho3 hgrow hat hG3; have f3 := (World.grownBy.frozen_far hgrow ⟨B, 2, none⟩ HBL.out nB.out).trans HF0.out; have c3 := World.grownBy.cell hgrow HC0.out nB.out))
  all_goals
    have hn := HN0.out
    have hs := HSV.out
    subst hn
    subst hs
    exact NoPanic.normal (HQ.out _ _ _ _ _ _ _ _ _ _ _ _ _ _ _ _ ((St.step HS.out hwB (by omega) (by omega) (by omega) (by omega) (by omega) (by omega) (by omega) (by omega) (by omega) 2 (by omega) (x &&& y) (w1 := wx.alloc (.cells #[.int .u64 (iv (x &&& y))] 22)) (fun q hq => Below.heap_alloc wx _ q hq) (by show wx.heap.size < (wx.alloc (.cells #[.int .u64 (iv (x &&& y))] 22)).heap.size; simp) g2 cap2 ho3 ⟨hgrow.os, hgrow.tape, hgrow.output, hgrow.size, hgrow.block⟩ hat hG3).cong fun j _ => rows_step HY.out 2 j))
set_option maxHeartbeats 8000000 in
theorem reg_3 (w wx : World) (B gp gq A cp cq k c : Nat) (P Q : List (BitVec 64)) (av zm bv zn x y : BitVec 64) (s : Nat → Value) (i0 : TypeInfo)
    (HI : Hid (Try.prog.info? 22 = some i0 ∧ i0.zero = some (.int .u64 0) ∧ i0.size = 1 ∧ i0.bytes = 8))
    (HS : Hid (St w wx B (B + 1) gp gq A (A + 1) P Q av zm bv zn (rowsN (fun j => Tn.pairs (opN j) (P.take k) Q) x Q c 3) s)) (hlp : P.length ≤ 16) (hlq : Q.length ≤ 16) (hwB : w.heap.size ≤ B) (hgp : gp < B) (hgq : gq < B) (hA : A < B) (hA1 : A + 1 < B)
    (k1 : (k : Int) < (P.length : Int)) (q1 : (c : Int) < (Q.length : Int)) (HX : Hid (P[k]? = some x)) (HY : Hid (Q[c]? = some y))
    (c0 c1 c2 c3 c4 c5 c6 c7 c8 c9 c10 c16 c17 c18 c19 c20 c21 c22 c23 c24 c25 c26 c27 c28 c29 c30 c31 c32 c33 c34 c35 c36 c37 c38 c39 c40 c41 c42 c43 c44 c45 c46 c47 c48 c49 c50 c51 c52 c53 c54 c55 c56 c57 c58 c59 c60 c61 c62 c63 c64 c65 c66 c67 c68 c69 c70 c71 c72 c73 c74 c75 c76 c77 c78 c79 c80 c81 c82 c83 c84 c85 c86 c87 c88 c89 c90 c91 c92 c93 c94 c95 c96 c97 c98 c99 c100 c101 c102 c103 c104 c105 c106 c107 c108 c109 c110 c111 c112 c113 c114 c115 c116 c117 c118 c119 c120 c121 c122 c123 c124 c125 c126 c127 c128 c129 c130 c131 c132 c133 c134 c135 c136 c137 c138 c139 c140 c141 c142 c143 c144 c145 c146 c147 c148 c149 c150 c151 c152 c153 c154 c155 c156 c157 c158 c159 c160 c161 c162 c163 c164 c165 c166 c167 c168 : Value) (Qp : Exit → Act → World → Prop)
    (hQ : ∀ (t83 t84 t85 t86 t87 t88 t89 t90 t91 t92 t93 t94 t95 t96 : Value) (w' : World) (s' : Nat → Value), St w w' B (B + 1) gp gq A (A + 1) P Q av zm bv zn (rowsN (fun j => Tn.pairs (opN j) (P.take k) Q) x Q c 4) s' → Qp .normal ⟨#[c0, c1, c2, c3, c4, c5, c6, c7, c8, c9, c10, .slice (some ⟨gp, 0, none⟩) P.length cp, .slice (some ⟨gq, 0, none⟩) Q.length cq, .pointer (some ⟨B, 0, none⟩), .int .i64 (k : Nat), .int .i64 (c : Nat), c16, c17, c18, c19, c20, c21, c22, c23, c24, c25, c26, c27, c28, c29, c30, c31, c32, c33, c34, c35, c36, c37, c38, c39, c40, c41, c42, c43, c44, c45, c46, c47, c48, c49, c50, c51, c52, c53, c54, c55, c56, c57, c58, c59, c60, c61, c62, c63, c64, c65, c66, c67, c68, c69, c70, c71, c72, c73, c74, c75, c76, c77, c78, c79, c80, c81, c82, t83, t84, t85, t86, t87, t88, t89, t90, t91, t92, t93, t94, t95, t96, c97, c98, c99, c100, c101, c102, c103, c104, c105, c106, c107, c108, c109, c110, c111, c112, c113, c114, c115, c116, c117, c118, c119, c120, c121, c122, c123, c124, c125, c126, c127, c128, c129, c130, c131, c132, c133, c134, c135, c136, c137, c138, c139, c140, c141, c142, c143, c144, c145, c146, c147, c148, c149, c150, c151, c152, c153, c154, c155, c156, c157, c158, c159, c160, c161, c162, c163, c164, c165, c166, c167, c168], []⟩ w') :
    Code.wp Try.prog (reg 13) Qp ⟨#[c0, c1, c2, c3, c4, c5, c6, c7, c8, c9, c10, .slice (some ⟨gp, 0, none⟩) P.length cp, .slice (some ⟨gq, 0, none⟩) Q.length cq, .pointer (some ⟨B, 0, none⟩), .int .i64 (k : Nat), .int .i64 (c : Nat), c16, c17, c18, c19, c20, c21, c22, c23, c24, c25, c26, c27, c28, c29, c30, c31, c32, c33, c34, c35, c36, c37, c38, c39, c40, c41, c42, c43, c44, c45, c46, c47, c48, c49, c50, c51, c52, c53, c54, c55, c56, c57, c58, c59, c60, c61, c62, c63, c64, c65, c66, c67, c68, c69, c70, c71, c72, c73, c74, c75, c76, c77, c78, c79, c80, c81, c82, c83, c84, c85, c86, c87, c88, c89, c90, c91, c92, c93, c94, c95, c96, c97, c98, c99, c100, c101, c102, c103, c104, c105, c106, c107, c108, c109, c110, c111, c112, c113, c114, c115, c116, c117, c118, c119, c120, c121, c122, c123, c124, c125, c126, c127, c128, c129, c130, c131, c132, c133, c134, c135, c136, c137, c138, c139, c140, c141, c142, c143, c144, c145, c146, c147, c148, c149, c150, c151, c152, c153, c154, c155, c156, c157, c158, c159, c160, c161, c162, c163, c164, c165, c166, c167, c168], []⟩ wx := by
  have HQ : Hid (∀ (t83 t84 t85 t86 t87 t88 t89 t90 t91 t92 t93 t94 t95 t96 : Value) (w' : World) (s' : Nat → Value), St w w' B (B + 1) gp gq A (A + 1) P Q av zm bv zn (rowsN (fun j => Tn.pairs (opN j) (P.take k) Q) x Q c 4) s' → Qp .normal ⟨#[c0, c1, c2, c3, c4, c5, c6, c7, c8, c9, c10, .slice (some ⟨gp, 0, none⟩) P.length cp, .slice (some ⟨gq, 0, none⟩) Q.length cq, .pointer (some ⟨B, 0, none⟩), .int .i64 (k : Nat), .int .i64 (c : Nat), c16, c17, c18, c19, c20, c21, c22, c23, c24, c25, c26, c27, c28, c29, c30, c31, c32, c33, c34, c35, c36, c37, c38, c39, c40, c41, c42, c43, c44, c45, c46, c47, c48, c49, c50, c51, c52, c53, c54, c55, c56, c57, c58, c59, c60, c61, c62, c63, c64, c65, c66, c67, c68, c69, c70, c71, c72, c73, c74, c75, c76, c77, c78, c79, c80, c81, c82, t83, t84, t85, t86, t87, t88, t89, t90, t91, t92, t93, t94, t95, t96, c97, c98, c99, c100, c101, c102, c103, c104, c105, c106, c107, c108, c109, c110, c111, c112, c113, c114, c115, c116, c117, c118, c119, c120, c121, c122, c123, c124, c125, c126, c127, c128, c129, c130, c131, c132, c133, c134, c135, c136, c137, c138, c139, c140, c141, c142, c143, c144, c145, c146, c147, c148, c149, c150, c151, c152, c153, c154, c155, c156, c157, c158, c159, c160, c161, c162, c163, c164, c165, c166, c167, c168], []⟩ w') := hQ
  clear hQ
  have k0 : (0 : Int) ≤ (k : Int) := by omega
  have q0 : (0 : Int) ≤ (c : Int) := by omega
  obtain ⟨n0, hn0⟩ : ∃ n0, (rowsN (fun j => Tn.pairs (opN j) (P.take k) Q) x Q c 3 3).length = n0 := ⟨_, rfl⟩
  have hn3 : n0 ≤ 300 := hn0 ▸ rows_len hlp hlq x k c 3 3
  obtain ⟨sv, hsv⟩ : ∃ sv, s 3 = sv := ⟨_, rfl⟩
  have cB := (HS.out.cell 3 (by omega)).1
  have fB := (HS.out.cell 3 (by omega)).2
  rw [hsv] at cB
  have cP := HS.out.rp k x HX.out
  have cQ := HS.out.rq c y HY.out
  have r0 := iv_or x y
  have HO : Hid ((wx.alloc (.cells #[.int .u64 (iv (x ||| y))] 22)).drew.ownsRow (B + 1) 22 1 sv n0 ((rowsN (fun j => Tn.pairs (opN j) (P.take k) Q) x Q c 3 3).map fun x => .int .u64 (iv x))) := by
    have := World.ownsRow.alloc (HS.out.own 3 (by omega)) (.cells #[.int .u64 (iv (x ||| y))] 22)
    rw [hn0, hsv] at this
    exact this
  have HN : Hid (∀ (q : Nat) (u : Value), [Value.int .u64 (iv (x ||| y))][q]? = some u → (wx.alloc (.cells #[.int .u64 (iv (x ||| y))] 22)).drew.cell? ((⟨wx.heap.size, 0, none⟩ : Addr).add q) = some u) := World.news_of_block (heap_alloc_new wx _)
  have HG : Hid (Gr w (wx.alloc (.cells #[.int .u64 (iv (x ||| y))] 22))) := HS.out.gr.alloc _ _
  have hsz := HS.out.sz
  have HOW : Hid (∀ q, sv.ownBlock = some q → B + 1 ≤ q ∧ q < wx.heap.size) := fun q hq => (HS.out.own 3 (by omega)).lt q (hsv ▸ hq)
  have HBL : Hid (B < (wx.alloc (.cells #[.int .u64 (iv (x ||| y))] 22)).drew.heap.size) := by show B < (wx.alloc (.cells #[.int .u64 (iv (x ||| y))] 22)).heap.size; simp; omega
  have HF0 : Hid ((wx.alloc (.cells #[.int .u64 (iv (x ||| y))] 22)).drew.frozen? ⟨B, 3, none⟩ = false) := (frozen?_alloc_cells wx _ _ _).trans fB
  have HC0 : Hid ((wx.alloc (.cells #[.int .u64 (iv (x ||| y))] 22)).drew.cell? ⟨B, 3, none⟩ = some sv) := cell_al cB
  have c0f : (wx.alloc (.cells #[.int .u64 (iv (x ||| y))] 22)).cell? ⟨B, 3, none⟩ = some sv := cell_al cB
  have c0d : (wx.alloc (.cells #[.int .u64 (iv (x ||| y))] 22)).drew.cell? ⟨B, 3, none⟩ = some sv := cell_al cB
  have nB : Hid (some B ≠ sv.ownBlock) := fun e => by have := HOW.out B e.symm; omega
  have HSV : Hid (s 3 = sv) := hsv
  have HN0 : Hid ((rowsN (fun j => Tn.pairs (opN j) (P.take k) Q) x Q c 3 3).length = n0) := hn0
  clear hsv hn0
  conv => arg 2; whnf
  refine wp_region_noPanic ?_
  go_region_law
    ((refine step_app _ (by rfl) _ _ _ (by rfl) (B + 1) 22 i0 (.int .u64 0) 1 8 Try.underlying27 HI.out.1 HI.out.2.1 HI.out.2.2.1 HI.out.2.2.2 rfl (by omega) sv n0 _ (by rfl) HO.out ⟨wx.heap.size, 0, none⟩ 1 1 [.int .u64 (iv (x ||| y))] (by rfl) (by rfl) HN.out (by simp [Value.oneCell']) (by omega) (by unfold maxLen; omega) (by omega) (by simp; omega) w (by repeat (first | exact HG.out | refine Gr.drew ?_)) (by omega) ?_; intro g2 cap2 w3 ho3 hgrow hat hG3; have f3 := (World.grownBy.frozen_far hgrow ⟨B, 3, none⟩ HBL.out nB.out).trans HF0.out; have c3 := World.grownBy.cell hgrow HC0.out nB.out))
  all_goals
    have hn := HN0.out
    have hs := HSV.out
    subst hn
    subst hs
    exact NoPanic.normal (HQ.out _ _ _ _ _ _ _ _ _ _ _ _ _ _ _ _ ((St.step HS.out hwB (by omega) (by omega) (by omega) (by omega) (by omega) (by omega) (by omega) (by omega) (by omega) 3 (by omega) (x ||| y) (w1 := wx.alloc (.cells #[.int .u64 (iv (x ||| y))] 22)) (fun q hq => Below.heap_alloc wx _ q hq) (by show wx.heap.size < (wx.alloc (.cells #[.int .u64 (iv (x ||| y))] 22)).heap.size; simp) g2 cap2 ho3 ⟨hgrow.os, hgrow.tape, hgrow.output, hgrow.size, hgrow.block⟩ hat hG3).cong fun j _ => rows_step HY.out 3 j))
set_option maxHeartbeats 8000000 in
theorem reg_4 (w wx : World) (B gp gq A cp cq k c : Nat) (P Q : List (BitVec 64)) (av zm bv zn x y : BitVec 64) (s : Nat → Value) (i0 : TypeInfo)
    (HI : Hid (Try.prog.info? 22 = some i0 ∧ i0.zero = some (.int .u64 0) ∧ i0.size = 1 ∧ i0.bytes = 8))
    (HS : Hid (St w wx B (B + 1) gp gq A (A + 1) P Q av zm bv zn (rowsN (fun j => Tn.pairs (opN j) (P.take k) Q) x Q c 4) s)) (hlp : P.length ≤ 16) (hlq : Q.length ≤ 16) (hwB : w.heap.size ≤ B) (hgp : gp < B) (hgq : gq < B) (hA : A < B) (hA1 : A + 1 < B)
    (k1 : (k : Int) < (P.length : Int)) (q1 : (c : Int) < (Q.length : Int)) (HX : Hid (P[k]? = some x)) (HY : Hid (Q[c]? = some y))
    (c0 c1 c2 c3 c4 c5 c6 c7 c8 c9 c10 c16 c17 c18 c19 c20 c21 c22 c23 c24 c25 c26 c27 c28 c29 c30 c31 c32 c33 c34 c35 c36 c37 c38 c39 c40 c41 c42 c43 c44 c45 c46 c47 c48 c49 c50 c51 c52 c53 c54 c55 c56 c57 c58 c59 c60 c61 c62 c63 c64 c65 c66 c67 c68 c69 c70 c71 c72 c73 c74 c75 c76 c77 c78 c79 c80 c81 c82 c83 c84 c85 c86 c87 c88 c89 c90 c91 c92 c93 c94 c95 c96 c97 c98 c99 c100 c101 c102 c103 c104 c105 c106 c107 c108 c109 c110 c111 c112 c113 c114 c115 c116 c117 c118 c119 c120 c121 c122 c123 c124 c125 c126 c127 c128 c129 c130 c131 c132 c133 c134 c135 c136 c137 c138 c139 c140 c141 c142 c143 c144 c145 c146 c147 c148 c149 c150 c151 c152 c153 c154 c155 c156 c157 c158 c159 c160 c161 c162 c163 c164 c165 c166 c167 c168 : Value) (Qp : Exit → Act → World → Prop)
    (hQ : ∀ (t97 t98 t99 t100 t101 t102 t103 t104 t105 t106 t107 t108 t109 t110 : Value) (w' : World) (s' : Nat → Value), St w w' B (B + 1) gp gq A (A + 1) P Q av zm bv zn (rowsN (fun j => Tn.pairs (opN j) (P.take k) Q) x Q c 5) s' → Qp .normal ⟨#[c0, c1, c2, c3, c4, c5, c6, c7, c8, c9, c10, .slice (some ⟨gp, 0, none⟩) P.length cp, .slice (some ⟨gq, 0, none⟩) Q.length cq, .pointer (some ⟨B, 0, none⟩), .int .i64 (k : Nat), .int .i64 (c : Nat), c16, c17, c18, c19, c20, c21, c22, c23, c24, c25, c26, c27, c28, c29, c30, c31, c32, c33, c34, c35, c36, c37, c38, c39, c40, c41, c42, c43, c44, c45, c46, c47, c48, c49, c50, c51, c52, c53, c54, c55, c56, c57, c58, c59, c60, c61, c62, c63, c64, c65, c66, c67, c68, c69, c70, c71, c72, c73, c74, c75, c76, c77, c78, c79, c80, c81, c82, c83, c84, c85, c86, c87, c88, c89, c90, c91, c92, c93, c94, c95, c96, t97, t98, t99, t100, t101, t102, t103, t104, t105, t106, t107, t108, t109, t110, c111, c112, c113, c114, c115, c116, c117, c118, c119, c120, c121, c122, c123, c124, c125, c126, c127, c128, c129, c130, c131, c132, c133, c134, c135, c136, c137, c138, c139, c140, c141, c142, c143, c144, c145, c146, c147, c148, c149, c150, c151, c152, c153, c154, c155, c156, c157, c158, c159, c160, c161, c162, c163, c164, c165, c166, c167, c168], []⟩ w') :
    Code.wp Try.prog (reg 14) Qp ⟨#[c0, c1, c2, c3, c4, c5, c6, c7, c8, c9, c10, .slice (some ⟨gp, 0, none⟩) P.length cp, .slice (some ⟨gq, 0, none⟩) Q.length cq, .pointer (some ⟨B, 0, none⟩), .int .i64 (k : Nat), .int .i64 (c : Nat), c16, c17, c18, c19, c20, c21, c22, c23, c24, c25, c26, c27, c28, c29, c30, c31, c32, c33, c34, c35, c36, c37, c38, c39, c40, c41, c42, c43, c44, c45, c46, c47, c48, c49, c50, c51, c52, c53, c54, c55, c56, c57, c58, c59, c60, c61, c62, c63, c64, c65, c66, c67, c68, c69, c70, c71, c72, c73, c74, c75, c76, c77, c78, c79, c80, c81, c82, c83, c84, c85, c86, c87, c88, c89, c90, c91, c92, c93, c94, c95, c96, c97, c98, c99, c100, c101, c102, c103, c104, c105, c106, c107, c108, c109, c110, c111, c112, c113, c114, c115, c116, c117, c118, c119, c120, c121, c122, c123, c124, c125, c126, c127, c128, c129, c130, c131, c132, c133, c134, c135, c136, c137, c138, c139, c140, c141, c142, c143, c144, c145, c146, c147, c148, c149, c150, c151, c152, c153, c154, c155, c156, c157, c158, c159, c160, c161, c162, c163, c164, c165, c166, c167, c168], []⟩ wx := by
  have HQ : Hid (∀ (t97 t98 t99 t100 t101 t102 t103 t104 t105 t106 t107 t108 t109 t110 : Value) (w' : World) (s' : Nat → Value), St w w' B (B + 1) gp gq A (A + 1) P Q av zm bv zn (rowsN (fun j => Tn.pairs (opN j) (P.take k) Q) x Q c 5) s' → Qp .normal ⟨#[c0, c1, c2, c3, c4, c5, c6, c7, c8, c9, c10, .slice (some ⟨gp, 0, none⟩) P.length cp, .slice (some ⟨gq, 0, none⟩) Q.length cq, .pointer (some ⟨B, 0, none⟩), .int .i64 (k : Nat), .int .i64 (c : Nat), c16, c17, c18, c19, c20, c21, c22, c23, c24, c25, c26, c27, c28, c29, c30, c31, c32, c33, c34, c35, c36, c37, c38, c39, c40, c41, c42, c43, c44, c45, c46, c47, c48, c49, c50, c51, c52, c53, c54, c55, c56, c57, c58, c59, c60, c61, c62, c63, c64, c65, c66, c67, c68, c69, c70, c71, c72, c73, c74, c75, c76, c77, c78, c79, c80, c81, c82, c83, c84, c85, c86, c87, c88, c89, c90, c91, c92, c93, c94, c95, c96, t97, t98, t99, t100, t101, t102, t103, t104, t105, t106, t107, t108, t109, t110, c111, c112, c113, c114, c115, c116, c117, c118, c119, c120, c121, c122, c123, c124, c125, c126, c127, c128, c129, c130, c131, c132, c133, c134, c135, c136, c137, c138, c139, c140, c141, c142, c143, c144, c145, c146, c147, c148, c149, c150, c151, c152, c153, c154, c155, c156, c157, c158, c159, c160, c161, c162, c163, c164, c165, c166, c167, c168], []⟩ w') := hQ
  clear hQ
  have k0 : (0 : Int) ≤ (k : Int) := by omega
  have q0 : (0 : Int) ≤ (c : Int) := by omega
  obtain ⟨n0, hn0⟩ : ∃ n0, (rowsN (fun j => Tn.pairs (opN j) (P.take k) Q) x Q c 4 4).length = n0 := ⟨_, rfl⟩
  have hn3 : n0 ≤ 300 := hn0 ▸ rows_len hlp hlq x k c 4 4
  obtain ⟨sv, hsv⟩ : ∃ sv, s 4 = sv := ⟨_, rfl⟩
  have cB := (HS.out.cell 4 (by omega)).1
  have fB := (HS.out.cell 4 (by omega)).2
  rw [hsv] at cB
  have cP := HS.out.rp k x HX.out
  have cQ := HS.out.rq c y HY.out
  have r0 := iv_xor x y
  have HO : Hid ((wx.alloc (.cells #[.int .u64 (iv (x ^^^ y))] 22)).drew.ownsRow (B + 1) 22 1 sv n0 ((rowsN (fun j => Tn.pairs (opN j) (P.take k) Q) x Q c 4 4).map fun x => .int .u64 (iv x))) := by
    have := World.ownsRow.alloc (HS.out.own 4 (by omega)) (.cells #[.int .u64 (iv (x ^^^ y))] 22)
    rw [hn0, hsv] at this
    exact this
  have HN : Hid (∀ (q : Nat) (u : Value), [Value.int .u64 (iv (x ^^^ y))][q]? = some u → (wx.alloc (.cells #[.int .u64 (iv (x ^^^ y))] 22)).drew.cell? ((⟨wx.heap.size, 0, none⟩ : Addr).add q) = some u) := World.news_of_block (heap_alloc_new wx _)
  have HG : Hid (Gr w (wx.alloc (.cells #[.int .u64 (iv (x ^^^ y))] 22))) := HS.out.gr.alloc _ _
  have hsz := HS.out.sz
  have HOW : Hid (∀ q, sv.ownBlock = some q → B + 1 ≤ q ∧ q < wx.heap.size) := fun q hq => (HS.out.own 4 (by omega)).lt q (hsv ▸ hq)
  have HBL : Hid (B < (wx.alloc (.cells #[.int .u64 (iv (x ^^^ y))] 22)).drew.heap.size) := by show B < (wx.alloc (.cells #[.int .u64 (iv (x ^^^ y))] 22)).heap.size; simp; omega
  have HF0 : Hid ((wx.alloc (.cells #[.int .u64 (iv (x ^^^ y))] 22)).drew.frozen? ⟨B, 4, none⟩ = false) := (frozen?_alloc_cells wx _ _ _).trans fB
  have HC0 : Hid ((wx.alloc (.cells #[.int .u64 (iv (x ^^^ y))] 22)).drew.cell? ⟨B, 4, none⟩ = some sv) := cell_al cB
  have c0f : (wx.alloc (.cells #[.int .u64 (iv (x ^^^ y))] 22)).cell? ⟨B, 4, none⟩ = some sv := cell_al cB
  have c0d : (wx.alloc (.cells #[.int .u64 (iv (x ^^^ y))] 22)).drew.cell? ⟨B, 4, none⟩ = some sv := cell_al cB
  have nB : Hid (some B ≠ sv.ownBlock) := fun e => by have := HOW.out B e.symm; omega
  have HSV : Hid (s 4 = sv) := hsv
  have HN0 : Hid ((rowsN (fun j => Tn.pairs (opN j) (P.take k) Q) x Q c 4 4).length = n0) := hn0
  clear hsv hn0
  conv => arg 2; whnf
  refine wp_region_noPanic ?_
  go_region_law
    ((refine step_app _ (by rfl) _ _ _ (by rfl) (B + 1) 22 i0 (.int .u64 0) 1 8 Try.underlying27 HI.out.1 HI.out.2.1 HI.out.2.2.1 HI.out.2.2.2 rfl (by omega) sv n0 _ (by rfl) HO.out ⟨wx.heap.size, 0, none⟩ 1 1 [.int .u64 (iv (x ^^^ y))] (by rfl) (by rfl) HN.out (by simp [Value.oneCell']) (by omega) (by unfold maxLen; omega) (by omega) (by simp; omega) w (by repeat (first | exact HG.out | refine Gr.drew ?_)) (by omega) ?_; intro g2 cap2 w3 ho3 hgrow hat hG3; have f3 := (World.grownBy.frozen_far hgrow ⟨B, 4, none⟩ HBL.out nB.out).trans HF0.out; have c3 := World.grownBy.cell hgrow HC0.out nB.out))
  all_goals
    have hn := HN0.out
    have hs := HSV.out
    subst hn
    subst hs
    exact NoPanic.normal (HQ.out _ _ _ _ _ _ _ _ _ _ _ _ _ _ _ _ ((St.step HS.out hwB (by omega) (by omega) (by omega) (by omega) (by omega) (by omega) (by omega) (by omega) (by omega) 4 (by omega) (x ^^^ y) (w1 := wx.alloc (.cells #[.int .u64 (iv (x ^^^ y))] 22)) (fun q hq => Below.heap_alloc wx _ q hq) (by show wx.heap.size < (wx.alloc (.cells #[.int .u64 (iv (x ^^^ y))] 22)).heap.size; simp) g2 cap2 ho3 ⟨hgrow.os, hgrow.tape, hgrow.output, hgrow.size, hgrow.block⟩ hat hG3).cong fun j _ => rows_step HY.out 4 j))
end Go.Proofs.Ytkfjjpdcbdbdiaa
