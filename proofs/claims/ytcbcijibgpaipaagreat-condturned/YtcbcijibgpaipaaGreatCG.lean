/- Towards the statements of package cond (layer 6): the closures, as they are made. -/
import Derived.Test.YtcbcijibgpaipaaGreatCY
import Derived.Test.YtcbcijibgpaipaaGreatML
import Derived.Test.YtcbcijibgpaipaaGreatCU
import Derived.Test.YtcbcijibgpaipaaGreatCV
import Derived.Test.YtcbcijibgpaipaaGreatCOU
import Derived.Test.YtcbcijibgpaipaaGreatCOS
import Derived.Deep.DeepCutAuto
namespace Go.Proofs.YtcbcijibgpaipaaGreat
open Go.ChangeShapes Go.WideShapes Go.ChangeAt Go.RowKit
open Tn (iv)
set_option linter.unusedVariables false
set_option linter.unusedSimpArgs false
set_option maxRecDepth 20000

/-- A function value that tells two bounds, which were there ahead of it, what T says. -/
def TellV (v : Value) (w0 w : World) (T : Bd → Bd → Option (Bd × Bd)) : Prop := ∃ (k : FuncId) (cs : Array Value), v = .func (.func k) #[] cs ∧ (∀ u0 u1 W, (callFunc k (#[u0, u1] ++ cs)).run Tryz.prog W = .ok (.enter k (#[u0, u1] ++ cs)) W) ∧
  ∀ w1, Gr w w1 → ∀ p q a b, p < w0.heap.size → q < w0.heap.size → p ≠ q → Good a → Good b → AtA w1 p (bv a) 30 → AtA w1 q (bv b) 30 → Calls Tryz.prog k (#[.pointer (some ⟨p, 0, none⟩), .pointer (some ⟨q, 0, none⟩)] ++ cs) w1 (tellPost p q (T a b) w1)
theorem TellV.gr {v : Value} {w0 w w' : World} {T : Bd → Bd → Option (Bd × Bd)} (h : TellV v w0 w T) (g : Gr w w') : TellV v w0 w' T := by
  obtain ⟨k, cs, h1, h2, h3⟩ := h
  exact ⟨k, cs, h1, h2, fun w1 g1 => h3 w1 (g.trans g1)⟩
theorem mk_clear (wd : Bool) (w : World) : Calls Tryz.prog 171 #[.bool wd] w fun e w' => ∃ v, e = .returned v ∧ TellV v w w' (clearM wd) ∧ Gr w w' := by
  go_enter Tryz.func171, Tryz.ntmps171
  go_wp2
  go_ret
  refine ⟨_, rfl, ⟨238, #[.pointer (some ⟨w.heap.size, 0, none⟩)], rfl, fun _ _ _ => by go_simp, ?_⟩, Gr.alloc (Gr.refl w) _ _⟩
  intro w1 g p q a b hp hq hpq ga gb HA HB
  have HW : AtA w1 w.heap.size #[.bool wd] 4 := (AtA.newb w rfl _ _).gr g
  exact tell_clear wd a b p q w1 hpq HA HB w.heap.size (by omega) (by omega) HW
theorem mk_set (wd : Bool) (w : World) : Calls Tryz.prog 235 #[.bool wd] w fun e w' => ∃ v, e = .returned v ∧ TellV v w w' (setM one1 wd) ∧ Gr w w' := by
  go_enter Tryz.func235, Tryz.ntmps235
  go_wp2
  go_ret
  refine ⟨_, rfl, ⟨267, #[.pointer (some ⟨w.heap.size, 0, none⟩)], rfl, fun _ _ _ => by go_simp, ?_⟩, Gr.alloc (Gr.refl w) _ _⟩
  intro w1 g p q a b hp hq hpq ga gb HA HB
  have HW : AtA w1 w.heap.size #[.bool wd] 4 := (AtA.newb w rfl _ _).gr g
  exact tell_set wd a b p q w1 hpq HA HB w.heap.size (by omega) (by omega) HW
theorem mk_unlike (wd : Bool) (w : World) : Calls Tryz.prog 234 #[.bool wd] w fun e w' => ∃ v, e = .returned v ∧ TellV v w w' (neM wd) ∧ Gr w w' := by
  go_enter Tryz.func234, Tryz.ntmps234
  go_wp2
  go_ret
  refine ⟨_, rfl, ⟨264, #[.pointer (some ⟨w.heap.size, 0, none⟩)], rfl, fun _ _ _ => by go_simp, ?_⟩, Gr.alloc (Gr.refl w) _ _⟩
  intro w1 g p q a b hp hq hpq ga gb HA HB
  have HW : AtA w1 w.heap.size #[.bool wd] 4 := (AtA.newb w rfl _ _).gr g
  cases wd with
  | true => exact tell_unlike_t a b ga gb p q w1 hpq HA HB w.heap.size (by omega) (by omega) HW
  | false => exact tell_unlike_f a b ga gb p q w1 hpq HA HB w.heap.size (by omega) (by omega) HW
theorem mk_alike_t (w : World) : Calls Tryz.prog 233 #[.bool true] w fun e w' => ∃ v, e = .returned v ∧ TellV v w w' (eqM true) ∧ Gr w w' := by
  go_enter Tryz.func233, Tryz.ntmps233
  go_wp2
  go_ret
  refine ⟨_, rfl, ⟨263, #[], rfl, fun _ _ _ => by go_simp, ?_⟩, Gr.refl w⟩
  intro w1 g p q a b hp hq hpq ga gb HA HB
  exact tell_alike a b ga gb p q w1 hpq HA HB
theorem mk_alike_f (w : World) : Calls Tryz.prog 233 #[.bool false] w fun e w' => ∃ v, e = .returned v ∧ TellV v w w' (eqM false) ∧ Gr w w' := by
  go_enter Tryz.func233, Tryz.ntmps233
  go_wp2
  go_ret
  refine ⟨_, rfl, ⟨262, #[], rfl, fun _ _ _ => by go_simp, ?_⟩, Gr.refl w⟩
  intro w1 g p q a b hp hq hpq ga gb HA HB
  exact tell_halves a b p q w1 hpq HA HB
theorem mk_alike (wd : Bool) (w : World) : Calls Tryz.prog 233 #[.bool wd] w fun e w' => ∃ v, e = .returned v ∧ TellV v w w' (eqM wd) ∧ Gr w w' := by
  cases wd with
  | true => exact mk_alike_t w
  | false => exact mk_alike_f w
set_option maxHeartbeats 16000000 in
theorem k_orders (wd : Bool) (w : World) : Calls Tryz.prog 270 #[.bool wd] w fun e w' => ∃ PW PA PS, e = .returned (.slice (some ⟨PS, 0, none⟩) 2 2) ∧ w.heap.size ≤ PW ∧ w.heap.size ≤ PA ∧ w.heap.size ≤ PS ∧ PW ≠ PA ∧ AtA w' PW #[.bool wd] 4 ∧ AtA w' PA (bv anyM) 30 ∧ AtA w' PS #[.func (.func 277) #[] #[.pointer (some ⟨PW, 0, none⟩), .pointer (some ⟨PA, 0, none⟩)], .func (.func 279) #[] #[.pointer (some ⟨PW, 0, none⟩), .pointer (some ⟨PA, 0, none⟩)]] 186 ∧ Gr w w' := by
  go_enter Tryz.func270, Tryz.ntmps270
  go_upto_region 0 with fail
  refine rG ?_
  refine sF rfl ?_
  refine wp_bx_bool rfl rfl ?_
  intro ws1 hn1 hg1
  obtain ⟨PN1, hb1⟩ : ∃ b, w.heap.size = b := ⟨_, rfl⟩
  rw [hb1] at hn1 ⊢
  have hge1 := Nat.le_trans (GrL.refl [] w).size (Nat.le_of_eq hb1)
  have hF_1 := (GrL.refl [] w).then hg1
  simp only [Act.put, zs, z0, z1]
  refine sF rfl ?_
  refine wA (v := .slice none 0 0) rfl rfl ?_
  simp only [Act.put, zs, z0, z1]
  refine s_end ?_
  go_upto_region 1 with fail
  refine rG ?_
  refine sF rfl ?_
  refine wp_call0 rfl (by go_simp) ?_
  refine ((fun w => k_any w) _).mono ?_
  rintro e wk2 ⟨rfl, hk2⟩
  refine ⟨_, rfl, ?_⟩
  have hPN1_2 := (hn1).gr hk2
  have hF_2 := (hF_1).then hk2
  simp only [Act.put, zs, z0, z1]
  refine sF rfl ?_
  refine wp_allocB rfl ?_
  intro ws3 hn3 hg3
  obtain ⟨PN3, hb3⟩ : ∃ b, wk2.heap.size = b := ⟨_, rfl⟩
  rw [hb3] at hn3 ⊢
  have hge3 := Nat.le_trans (hF_2).size (Nat.le_of_eq hb3)
  have hnePN1_PN3 : PN1 ≠ PN3 := nl (hPN1_2).lt hb3
  have hPN1_3 := (hPN1_2).gr hg3
  have hF_3 := (hF_2).then hg3
  simp only [Act.put, zs, z0, z1]
  refine sF rfl ?_
  refine wp_storeB rfl rfl rfl (hn3) ?_
  intro ws4 hs4 gx4
  have hPN1_4 := (hPN1_3).grx gx4 hnePN1_PN3
  have hF_4 := (hF_3).thenx gx4 (.inr hge3)
  change AtA ws4 PN3 (bv anyM) 30 at hs4
  simp only [Act.put, zs, z0, z1]
  refine s_end ?_
  go_upto_region 2 with fail
  refine rG ?_
  refine sF rfl ?_
  refine wp_mf2 rfl rfl rfl ?_
  simp only [Act.put, zs, z0, z1]
  refine sF rfl ?_
  refine wp_mf2 rfl rfl rfl ?_
  simp only [Act.put, zs, z0, z1]
  refine sF rfl ?_
  refine wp_bs_order rfl rfl rfl ?_
  intro ws5 hn5 hg5
  obtain ⟨PN5, hb5⟩ : ∃ b, ws4.heap.size = b := ⟨_, rfl⟩
  rw [hb5] at hn5 ⊢
  have hge5 := Nat.le_trans (hF_4).size (Nat.le_of_eq hb5)
  have hnePN1_PN5 : PN1 ≠ PN5 := nl (hPN1_4).lt hb5
  have hnePN3_PN5 : PN3 ≠ PN5 := nl (hs4).lt hb5
  have hPN1_5 := (hPN1_4).gr hg5
  have hPN3_5 := (hs4).gr hg5
  have hF_5 := (hF_4).then hg5
  simp only [Act.put, zs, z0, z1]
  refine sF rfl ?_
  refine wA (v := .slice (some ⟨PN5, 0, none⟩) 2 2) rfl rfl ?_
  simp only [Act.put, zs, z0, z1]
  refine s_end ?_
  go_wp2
  go_ret
  exact ⟨PN1, PN3, PN5, rfl, hge1, hge3, hge5, hnePN1_PN3, hPN1_5, hPN3_5, hn5, (hF_5).gr0⟩
theorem ordU (wd : Bool) (g : Int) (hg : g = 0 ∨ g = 1) (a b : Bd) (ga : Good a) (gb : Good b) (p q : Nat) (w : World) (hpq : p ≠ q) (HA : AtA w p (bv a) 30) (HB : AtA w q (bv b) 30) (PW PA : Nat) (npPW : p ≠ PW) (nqPW : q ≠ PW) (npPA : p ≠ PA) (nqPA : q ≠ PA) (nPWPA : PW ≠ PA) (HW : AtA w PW #[.bool wd] 4) (HL : AtA w PA (bv anyM) 30) : Calls Tryz.prog 277 #[.pointer (some ⟨p, 0, none⟩), .pointer (some ⟨q, 0, none⟩), .int .u8 g, .pointer (some ⟨PW, 0, none⟩), .pointer (some ⟨PA, 0, none⟩)] w (tellPost p q (gtU wd g a b) w) := by
  rcases hg with rfl | rfl
  · cases wd with
    | true => exact ordU_t0 a b ga gb p q w hpq HA HB PW PA npPW nqPW npPA nqPA nPWPA HW HL
    | false => exact ordU_f0 a b ga gb p q w hpq HA HB PW PA npPW nqPW npPA nqPA nPWPA HW HL
  · cases wd with
    | true => exact ordU_t1 a b ga gb p q w hpq HA HB PW PA npPW nqPW npPA nqPA nPWPA HW HL
    | false => exact ordU_f1 a b ga gb p q w hpq HA HB PW PA npPW nqPW npPA nqPA nPWPA HW HL
theorem gt_U (wd : Bool) (g : Int) (hg : g = 0 ∨ g = 1) (a b : Bd) (ga : Good a) (gb : Good b) (p q : Nat) (w : World) (hpq : p ≠ q) (HA : AtA w p (bv a) 30) (HB : AtA w q (bv b) 30) (PW PA PB PG : Nat) (npPW : p ≠ PW) (nqPW : q ≠ PW) (npPA : p ≠ PA) (nqPA : q ≠ PA) (nPWPA : PW ≠ PA) (HW : AtA w PW #[.bool wd] 4) (HL : AtA w PA (bv anyM) 30) (HO : AtA w PB #[.func (.func 277) #[] #[.pointer (some ⟨PW, 0, none⟩), .pointer (some ⟨PA, 0, none⟩)]] 186) (HG : AtA w PG #[.int .u8 g] 5) : Calls Tryz.prog 271 #[.pointer (some ⟨p, 0, none⟩), .pointer (some ⟨q, 0, none⟩), .pointer (some ⟨PB, 0, none⟩), .pointer (some ⟨PG, 0, none⟩)] w (tellPost p q (gtU wd g a b) w) := by
  have c0 : w.cell? ⟨PB, 0, none⟩ = some (.func (.func 277) #[] #[.pointer (some ⟨PW, 0, none⟩), .pointer (some ⟨PA, 0, none⟩)]) := HO.cell 0
  have c1 : w.cell? ⟨PG, 0, none⟩ = some (.int .u8 g) := HG.cell 0
  have H := ordU wd g hg a b ga gb p q w hpq HA HB PW PA npPW nqPW npPA nqPA nPWPA HW HL
  clear HO HG HW HL HA HB
  cases hT : gtU wd g a b with
  | none =>
    rw [hT] at H
    go_enter Tryz.func271, Tryz.ntmps271
    go_wp2_with (go_at_call 277; refine H.mono ?_; rintro e w1 ⟨rfl, hk⟩)
    go_ret
    exact ⟨rfl, hk⟩
  | some z =>
    rw [hT] at H
    go_enter Tryz.func271, Tryz.ntmps271
    go_wp2_with (go_at_call 277; refine H.mono ?_; rintro e w1 ⟨rfl, hk1, hk2, hk⟩)
    go_ret
    exact ⟨rfl, hk1, hk2, hk⟩
theorem ordS (wd : Bool) (g : Int) (hg : g = 0 ∨ g = 1) (a b : Bd) (ga : Good a) (gb : Good b) (p q : Nat) (w : World) (hpq : p ≠ q) (HA : AtA w p (bv a) 30) (HB : AtA w q (bv b) 30) (PW PA : Nat) (npPW : p ≠ PW) (nqPW : q ≠ PW) (npPA : p ≠ PA) (nqPA : q ≠ PA) (nPWPA : PW ≠ PA) (HW : AtA w PW #[.bool wd] 4) (HL : AtA w PA (bv anyM) 30) : Calls Tryz.prog 279 #[.pointer (some ⟨p, 0, none⟩), .pointer (some ⟨q, 0, none⟩), .int .u8 g, .pointer (some ⟨PW, 0, none⟩), .pointer (some ⟨PA, 0, none⟩)] w (tellPost p q (gtS wd g a b) w) := by
  rcases hg with rfl | rfl
  · cases wd with
    | true => exact ordS_t0 a b ga gb p q w hpq HA HB PW PA npPW nqPW npPA nqPA nPWPA HW HL
    | false => exact ordS_f0 a b ga gb p q w hpq HA HB PW PA npPW nqPW npPA nqPA nPWPA HW HL
  · cases wd with
    | true => exact ordS_t1 a b ga gb p q w hpq HA HB PW PA npPW nqPW npPA nqPA nPWPA HW HL
    | false => exact ordS_f1 a b ga gb p q w hpq HA HB PW PA npPW nqPW npPA nqPA nPWPA HW HL
theorem gt_S (wd : Bool) (g : Int) (hg : g = 0 ∨ g = 1) (a b : Bd) (ga : Good a) (gb : Good b) (p q : Nat) (w : World) (hpq : p ≠ q) (HA : AtA w p (bv a) 30) (HB : AtA w q (bv b) 30) (PW PA PB PG : Nat) (npPW : p ≠ PW) (nqPW : q ≠ PW) (npPA : p ≠ PA) (nqPA : q ≠ PA) (nPWPA : PW ≠ PA) (HW : AtA w PW #[.bool wd] 4) (HL : AtA w PA (bv anyM) 30) (HO : AtA w PB #[.func (.func 279) #[] #[.pointer (some ⟨PW, 0, none⟩), .pointer (some ⟨PA, 0, none⟩)]] 186) (HG : AtA w PG #[.int .u8 g] 5) : Calls Tryz.prog 271 #[.pointer (some ⟨p, 0, none⟩), .pointer (some ⟨q, 0, none⟩), .pointer (some ⟨PB, 0, none⟩), .pointer (some ⟨PG, 0, none⟩)] w (tellPost p q (gtS wd g a b) w) := by
  have c0 : w.cell? ⟨PB, 0, none⟩ = some (.func (.func 279) #[] #[.pointer (some ⟨PW, 0, none⟩), .pointer (some ⟨PA, 0, none⟩)]) := HO.cell 0
  have c1 : w.cell? ⟨PG, 0, none⟩ = some (.int .u8 g) := HG.cell 0
  have H := ordS wd g hg a b ga gb p q w hpq HA HB PW PA npPW nqPW npPA nqPA nPWPA HW HL
  clear HO HG HW HL HA HB
  cases hT : gtS wd g a b with
  | none =>
    rw [hT] at H
    go_enter Tryz.func271, Tryz.ntmps271
    go_wp2_with (go_at_call 279; refine H.mono ?_; rintro e w1 ⟨rfl, hk⟩)
    go_ret
    exact ⟨rfl, hk⟩
  | some z =>
    rw [hT] at H
    go_enter Tryz.func271, Tryz.ntmps271
    go_wp2_with (go_at_call 279; refine H.mono ?_; rintro e w1 ⟨rfl, hk1, hk2, hk⟩)
    go_ret
    exact ⟨rfl, hk1, hk2, hk⟩
set_option maxHeartbeats 16000000 in
theorem mk_greater_U (wd : Bool) (g : Int) (hg : g = 0 ∨ g = 1) (w : World) : Calls Tryz.prog 236 #[.bool wd, .int .i64 0, .int .u8 g] w fun e w' => ∃ v, e = .returned v ∧ TellV v w w' (gtU wd g) ∧ Gr w w' := by
  go_enter Tryz.func236, Tryz.ntmps236
  go_upto_region 0 with fail
  refine rG ?_
  refine sF rfl ?_
  refine wp_bx_uint8 rfl rfl ?_
  intro ws1 hn1 hg1
  obtain ⟨PN1, hb1⟩ : ∃ b, w.heap.size = b := ⟨_, rfl⟩
  rw [hb1] at hn1 ⊢
  have hge1 := Nat.le_trans (GrL.refl [] w).size (Nat.le_of_eq hb1)
  have hF_1 := (GrL.refl [] w).then hg1
  simp only [Act.put, zs, z0, z1]
  refine sF rfl ?_
  refine wA (v := .nilFunc) rfl rfl ?_
  simp only [Act.put, zs, z0, z1]
  refine s_end ?_
  go_upto_region 1 with fail
  refine rG ?_
  refine sF rfl ?_
  refine wM (v := .bool wd) rfl rfl ?_
  simp only [Act.put, zs, z0, z1]
  refine sF rfl ?_
  refine wp_call1 rfl rfl (by go_simp) ?_
  refine (k_orders wd _).mono ?_
  rintro e wk2 ⟨PW, PA, PS, rfl, hW0, hA0, hS0, nWA, HW, HL, HS, hk2⟩
  refine ⟨_, rfl, ?_⟩
  have hPN1_2 := (hn1).gr hk2
  have hF_2 := (hF_1).then hk2
  have nePN1PW : PN1 ≠ PW := Nat.ne_of_lt (Nat.lt_of_lt_of_le (hn1).lt hW0)
  have frPW := Nat.le_trans (hF_1).size hW0
  have nePN1PA : PN1 ≠ PA := Nat.ne_of_lt (Nat.lt_of_lt_of_le (hn1).lt hA0)
  have frPA := Nat.le_trans (hF_1).size hA0
  have nePN1PS : PN1 ≠ PS := Nat.ne_of_lt (Nat.lt_of_lt_of_le (hn1).lt hS0)
  have frPS := Nat.le_trans (hF_1).size hS0
  simp only [Act.put, zs, z0, z1]
  refine sF rfl ?_
  refine wM (v := .int .i64 0) rfl rfl ?_
  simp only [Act.put, zs, z0, z1]
  refine sF rfl ?_
  refine wp_ia_order0 rfl rfl rfl ?_
  simp only [Act.put, zs, z0, z1]
  have HSX := HS
  refine sF rfl ?_
  refine wp_ld_order (v := .func (.func 277) #[] #[.pointer (some ⟨PW, 0, none⟩), .pointer (some ⟨PA, 0, none⟩)]) rfl rfl (HSX) rfl ?_
  simp only [Act.put, zs, z0, z1]
  refine sF rfl ?_
  refine wp_al_order rfl ?_
  intro ws3 hn3 hg3
  obtain ⟨PN3, hb3⟩ : ∃ b, wk2.heap.size = b := ⟨_, rfl⟩
  rw [hb3] at hn3 ⊢
  have hge3 := Nat.le_trans (hF_2).size (Nat.le_of_eq hb3)
  have hnePN1_PN3 : PN1 ≠ PN3 := nl (hPN1_2).lt hb3
  have hnePW_PN3 : PW ≠ PN3 := nl (HW).lt hb3
  have hnePA_PN3 : PA ≠ PN3 := nl (HL).lt hb3
  have hnePS_PN3 : PS ≠ PN3 := nl (HS).lt hb3
  have hPN1_3 := (hPN1_2).gr hg3
  have hPW_3 := (HW).gr hg3
  have hPA_3 := (HL).gr hg3
  have hPS_3 := (HS).gr hg3
  have hF_3 := (hF_2).then hg3
  simp only [Act.put, zs, z0, z1]
  refine sF rfl ?_
  refine wp_sc_order rfl rfl rfl (hn3) rfl ?_
  intro ws4 hs4 gx4
  have hPN1_4 := (hPN1_3).grx gx4 hnePN1_PN3
  have hPW_4 := (hPW_3).grx gx4 hnePW_PN3
  have hPA_4 := (hPA_3).grx gx4 hnePA_PN3
  have hPS_4 := (hPS_3).grx gx4 hnePS_PN3
  have hF_4 := (hF_3).thenx gx4 (.inr hge3)
  change AtA ws4 PN3 (#[.func (.func 277) #[] #[.pointer (some ⟨PW, 0, none⟩), .pointer (some ⟨PA, 0, none⟩)]]) 186 at hs4
  simp only [Act.put, zs, z0, z1]
  refine s_end ?_
  go_upto_region 2 with fail
  refine rG ?_
  refine sF rfl ?_
  refine wp_mf2 rfl rfl rfl ?_
  simp only [Act.put, zs, z0, z1]
  refine sF rfl ?_
  refine wA (v := .func (.func 271) #[] #[.pointer (some ⟨PN3, 0, none⟩), .pointer (some ⟨PN1, 0, none⟩)]) rfl rfl ?_
  simp only [Act.put, zs, z0, z1]
  refine s_end ?_
  go_wp2
  go_ret
  refine ⟨_, rfl, ⟨271, #[.pointer (some ⟨PN3, 0, none⟩), .pointer (some ⟨PN1, 0, none⟩)], rfl, fun _ _ _ => by go_simp, ?_⟩, (hF_4).gr0⟩
  intro w1 gg p q a b hp hq hpq ga gb HA HB
  have f1 := frPW; have f2 := frPA
  exact gt_U wd g hg a b ga gb p q w1 hpq HA HB PW PA PN3 PN1 (by omega) (by omega) (by omega) (by omega) nWA ((hPW_4).gr gg) ((hPA_4).gr gg) ((hs4).gr gg) ((hPN1_4).gr gg)
set_option maxHeartbeats 16000000 in
theorem mk_greater_S (wd : Bool) (g : Int) (hg : g = 0 ∨ g = 1) (w : World) : Calls Tryz.prog 236 #[.bool wd, .int .i64 1, .int .u8 g] w fun e w' => ∃ v, e = .returned v ∧ TellV v w w' (gtS wd g) ∧ Gr w w' := by
  go_enter Tryz.func236, Tryz.ntmps236
  go_upto_region 0 with fail
  refine rG ?_
  refine sF rfl ?_
  refine wp_bx_uint8 rfl rfl ?_
  intro ws1 hn1 hg1
  obtain ⟨PN1, hb1⟩ : ∃ b, w.heap.size = b := ⟨_, rfl⟩
  rw [hb1] at hn1 ⊢
  have hge1 := Nat.le_trans (GrL.refl [] w).size (Nat.le_of_eq hb1)
  have hF_1 := (GrL.refl [] w).then hg1
  simp only [Act.put, zs, z0, z1]
  refine sF rfl ?_
  refine wA (v := .nilFunc) rfl rfl ?_
  simp only [Act.put, zs, z0, z1]
  refine s_end ?_
  go_upto_region 1 with fail
  refine rG ?_
  refine sF rfl ?_
  refine wM (v := .bool wd) rfl rfl ?_
  simp only [Act.put, zs, z0, z1]
  refine sF rfl ?_
  refine wp_call1 rfl rfl (by go_simp) ?_
  refine (k_orders wd _).mono ?_
  rintro e wk2 ⟨PW, PA, PS, rfl, hW0, hA0, hS0, nWA, HW, HL, HS, hk2⟩
  refine ⟨_, rfl, ?_⟩
  have hPN1_2 := (hn1).gr hk2
  have hF_2 := (hF_1).then hk2
  have nePN1PW : PN1 ≠ PW := Nat.ne_of_lt (Nat.lt_of_lt_of_le (hn1).lt hW0)
  have frPW := Nat.le_trans (hF_1).size hW0
  have nePN1PA : PN1 ≠ PA := Nat.ne_of_lt (Nat.lt_of_lt_of_le (hn1).lt hA0)
  have frPA := Nat.le_trans (hF_1).size hA0
  have nePN1PS : PN1 ≠ PS := Nat.ne_of_lt (Nat.lt_of_lt_of_le (hn1).lt hS0)
  have frPS := Nat.le_trans (hF_1).size hS0
  simp only [Act.put, zs, z0, z1]
  refine sF rfl ?_
  refine wM (v := .int .i64 1) rfl rfl ?_
  simp only [Act.put, zs, z0, z1]
  refine sF rfl ?_
  refine wp_ia_order1 rfl rfl rfl ?_
  simp only [Act.put, zs, z0, z1]
  have HSX := HS
  refine sF rfl ?_
  refine wp_ld_order (v := .func (.func 279) #[] #[.pointer (some ⟨PW, 0, none⟩), .pointer (some ⟨PA, 0, none⟩)]) rfl rfl (HSX) rfl ?_
  simp only [Act.put, zs, z0, z1]
  refine sF rfl ?_
  refine wp_al_order rfl ?_
  intro ws3 hn3 hg3
  obtain ⟨PN3, hb3⟩ : ∃ b, wk2.heap.size = b := ⟨_, rfl⟩
  rw [hb3] at hn3 ⊢
  have hge3 := Nat.le_trans (hF_2).size (Nat.le_of_eq hb3)
  have hnePN1_PN3 : PN1 ≠ PN3 := nl (hPN1_2).lt hb3
  have hnePW_PN3 : PW ≠ PN3 := nl (HW).lt hb3
  have hnePA_PN3 : PA ≠ PN3 := nl (HL).lt hb3
  have hnePS_PN3 : PS ≠ PN3 := nl (HS).lt hb3
  have hPN1_3 := (hPN1_2).gr hg3
  have hPW_3 := (HW).gr hg3
  have hPA_3 := (HL).gr hg3
  have hPS_3 := (HS).gr hg3
  have hF_3 := (hF_2).then hg3
  simp only [Act.put, zs, z0, z1]
  refine sF rfl ?_
  refine wp_sc_order rfl rfl rfl (hn3) rfl ?_
  intro ws4 hs4 gx4
  have hPN1_4 := (hPN1_3).grx gx4 hnePN1_PN3
  have hPW_4 := (hPW_3).grx gx4 hnePW_PN3
  have hPA_4 := (hPA_3).grx gx4 hnePA_PN3
  have hPS_4 := (hPS_3).grx gx4 hnePS_PN3
  have hF_4 := (hF_3).thenx gx4 (.inr hge3)
  change AtA ws4 PN3 (#[.func (.func 279) #[] #[.pointer (some ⟨PW, 0, none⟩), .pointer (some ⟨PA, 0, none⟩)]]) 186 at hs4
  simp only [Act.put, zs, z0, z1]
  refine s_end ?_
  go_upto_region 2 with fail
  refine rG ?_
  refine sF rfl ?_
  refine wp_mf2 rfl rfl rfl ?_
  simp only [Act.put, zs, z0, z1]
  refine sF rfl ?_
  refine wA (v := .func (.func 271) #[] #[.pointer (some ⟨PN3, 0, none⟩), .pointer (some ⟨PN1, 0, none⟩)]) rfl rfl ?_
  simp only [Act.put, zs, z0, z1]
  refine s_end ?_
  go_wp2
  go_ret
  refine ⟨_, rfl, ⟨271, #[.pointer (some ⟨PN3, 0, none⟩), .pointer (some ⟨PN1, 0, none⟩)], rfl, fun _ _ _ => by go_simp, ?_⟩, (hF_4).gr0⟩
  intro w1 gg p q a b hp hq hpq ga gb HA HB
  have f1 := frPW; have f2 := frPA
  exact gt_S wd g hg a b ga gb p q w1 hpq HA HB PW PA PN3 PN1 (by omega) (by omega) (by omega) (by omega) nWA ((hPW_4).gr gg) ((hPA_4).gr gg) ((hs4).gr gg) ((hPN1_4).gr gg)
end Go.Proofs.YtcbcijibgpaipaaGreat
