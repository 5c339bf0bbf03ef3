/- Towards the statements of package cond (layer 6): what is told by which code. -/
import Derived.Test.YtcbcijibgpaipaaGreatCG
import Derived.Test.YtcbcijibgpaipaaGreatME
import Derived.Laws.EntriesVeiled
import Derived.Deep.DeepCutAuto
namespace Go.Proofs.YtcbcijibgpaipaaGreat
open Go.ChangeShapes Go.WideShapes Go.ChangeAt Go.RowKit
open Tn (iv)
set_option linter.unusedVariables false
set_option linter.unusedSimpArgs false
set_option maxRecDepth 20000

set_option maxHeartbeats 16000000 in
theorem turned_n (k : FuncId) (cs : Array Value) (hf : ∀ u0 u1 W, (callFunc k (#[u0, u1] ++ cs)).run Tryz.prog W = .ok (.enter k (#[u0, u1] ++ cs)) W) (a b : Bd)  (p q : Nat) (w : World) (hpq : p ≠ q) (HA : AtA w p (bv a) 30) (HB : AtA w q (bv b) 30) (PO : Nat) (npPO : p ≠ PO) (nqPO : q ≠ PO) (HO : AtA w PO #[.func (.func k) #[] cs] 102)
    (H : Calls Tryz.prog k (#[.pointer (some ⟨q, 0, none⟩), .pointer (some ⟨p, 0, none⟩)] ++ cs) w (tellPost q p none w)) : Calls Tryz.prog 272 #[.pointer (some ⟨p, 0, none⟩), .pointer (some ⟨q, 0, none⟩), .pointer (some ⟨PO, 0, none⟩)] w (tellPost p q (swapM none) w) := by
  go_enter Tryz.func272, Tryz.ntmps272
  go_upto_region 0 with fail
  refine rG ?_
  refine sF rfl ?_
  refine wA (v := .bool false) rfl rfl ?_
  simp only [Act.put, zs, z0, z1]
  refine s_end ?_
  go_upto_region 1 with fail
  refine rG ?_
  refine sF rfl ?_
  refine wp_ld_tell (v := .func (.func k) #[] cs) rfl rfl (HO) rfl ?_
  simp only [Act.put, zs, z0, z1]
  refine sF rfl ?_
  refine wM (v := .pointer (some ⟨q, 0, none⟩)) rfl rfl ?_
  simp only [Act.put, zs, z0, z1]
  refine sF rfl ?_
  refine wM (v := .pointer (some ⟨p, 0, none⟩)) rfl rfl ?_
  simp only [Act.put, zs, z0, z1]
  refine sF rfl ?_
  refine wp_callv2 rfl rfl rfl rfl (hf _ _ _) ?_
  refine H.mono ?_
  rintro e wk1 ⟨rfl, hk9⟩
  refine ⟨_, rfl, ?_⟩
  simp only [Act.put, zs, z0, z1]
  refine sF rfl ?_
  refine wA (v := .bool false) rfl rfl ?_
  simp only [Act.put, zs, z0, z1]
  refine s_end ?_
  go_wp2
  go_ret
  exact ⟨rfl, ⟨hk9.size, fun r h1 h2 => hk9.block r h1 (n2 (fun e => h2 (by rw [e]; exact m22)) (fun e => h2 (by rw [e]; exact m21))), fun w0 g hp => hk9.gr w0 g (fun r hr => hp r (by simp at hr ⊢; omega))⟩⟩
set_option maxHeartbeats 16000000 in
theorem turned_s (k : FuncId) (cs : Array Value) (hf : ∀ u0 u1 W, (callFunc k (#[u0, u1] ++ cs)).run Tryz.prog W = .ok (.enter k (#[u0, u1] ++ cs)) W) (a b : Bd) (z : Bd × Bd) (p q : Nat) (w : World) (hpq : p ≠ q) (HA : AtA w p (bv a) 30) (HB : AtA w q (bv b) 30) (PO : Nat) (npPO : p ≠ PO) (nqPO : q ≠ PO) (HO : AtA w PO #[.func (.func k) #[] cs] 102)
    (H : Calls Tryz.prog k (#[.pointer (some ⟨q, 0, none⟩), .pointer (some ⟨p, 0, none⟩)] ++ cs) w (tellPost q p (some z) w)) : Calls Tryz.prog 272 #[.pointer (some ⟨p, 0, none⟩), .pointer (some ⟨q, 0, none⟩), .pointer (some ⟨PO, 0, none⟩)] w (tellPost p q (swapM (some z)) w) := by
  go_enter Tryz.func272, Tryz.ntmps272
  go_upto_region 0 with fail
  refine rG ?_
  refine sF rfl ?_
  refine wA (v := .bool false) rfl rfl ?_
  simp only [Act.put, zs, z0, z1]
  refine s_end ?_
  go_upto_region 1 with fail
  refine rG ?_
  refine sF rfl ?_
  refine wp_ld_tell (v := .func (.func k) #[] cs) rfl rfl (HO) rfl ?_
  simp only [Act.put, zs, z0, z1]
  refine sF rfl ?_
  refine wM (v := .pointer (some ⟨q, 0, none⟩)) rfl rfl ?_
  simp only [Act.put, zs, z0, z1]
  refine sF rfl ?_
  refine wM (v := .pointer (some ⟨p, 0, none⟩)) rfl rfl ?_
  simp only [Act.put, zs, z0, z1]
  refine sF rfl ?_
  refine wp_callv2 rfl rfl rfl rfl (hf _ _ _) ?_
  refine H.mono ?_
  rintro e wk1 ⟨rfl, hq9, hp9, hk9⟩
  refine ⟨_, rfl, ?_⟩
  simp only [Act.put, zs, z0, z1]
  refine sF rfl ?_
  refine wA (v := .bool true) rfl rfl ?_
  simp only [Act.put, zs, z0, z1]
  refine s_end ?_
  go_wp2
  go_ret
  exact ⟨rfl, hp9, hq9, ⟨hk9.size, fun r h1 h2 => hk9.block r h1 (n2 (fun e => h2 (by rw [e]; exact m22)) (fun e => h2 (by rw [e]; exact m21))), fun w0 g hp => hk9.gr w0 g (fun r hr => hp r (by simp at hr ⊢; omega))⟩⟩
theorem turned_any (k : FuncId) (cs : Array Value) (hf : ∀ u0 u1 W, (callFunc k (#[u0, u1] ++ cs)).run Tryz.prog W = .ok (.enter k (#[u0, u1] ++ cs)) W) (a b : Bd) (t : Option (Bd × Bd)) (p q : Nat) (w : World) (hpq : p ≠ q) (HA : AtA w p (bv a) 30) (HB : AtA w q (bv b) 30) (PO : Nat) (npPO : p ≠ PO) (nqPO : q ≠ PO) (HO : AtA w PO #[.func (.func k) #[] cs] 102)
    (H : Calls Tryz.prog k (#[.pointer (some ⟨q, 0, none⟩), .pointer (some ⟨p, 0, none⟩)] ++ cs) w (tellPost q p t w)) : Calls Tryz.prog 272 #[.pointer (some ⟨p, 0, none⟩), .pointer (some ⟨q, 0, none⟩), .pointer (some ⟨PO, 0, none⟩)] w (tellPost p q (swapM t) w) := by
  cases t with
  | none => exact turned_n k cs hf a b p q w hpq HA HB PO npPO nqPO HO H
  | some z => exact turned_s k cs hf a b z p q w hpq HA HB PO npPO nqPO HO H
/-- What is known where it is so. -/
def holdsM (c : Int) (wd : Bool) (a b : Bd) : Option (Bd × Bd) :=
  if c = 1 then eqM wd a b else if c = 5 then neM wd a b else if c = 4 then setM one1 wd a b else if c = 2 then gtU wd 1 a b else if c = 3 then gtU wd 0 a b
  else if c = 6 then gtS wd 1 a b else if c = 7 then gtS wd 0 a b else if c = 10 then swapM (gtU wd 1 b a) else if c = 11 then swapM (gtU wd 0 b a)
  else if c = 12 then swapM (gtS wd 1 b a) else if c = 13 then swapM (gtS wd 0 b a) else some (a, b)
theorem mk_tells_0 (wd : Bool) (w : World) : Calls Tryz.prog 169 #[.int .u8 0, .bool wd] w fun e w' => ∃ v, e = .returned v ∧ TellV v w w' (holdsM 0 wd) ∧ Gr w w' := by
  go_enter Tryz.func169, Tryz.ntmps169
  go_wp2
  go_ret
  refine ⟨_, rfl, ⟨232, #[], rfl, fun _ _ _ => by go_simp, ?_⟩, Gr.refl w⟩
  intro w1 g p q a b hp hq hpq ga gb HA HB
  show Calls Tryz.prog 232 #[.pointer (some ⟨p, 0, none⟩), .pointer (some ⟨q, 0, none⟩)] w1 fun e w' => e = .returned (.bool true) ∧ AtA w' p (bv a) 30 ∧ AtA w' q (bv b) 30 ∧ GrL [p, q] w1 w'
  go_enter Tryz.func232, Tryz.ntmps232
  go_wp2
  go_ret
  exact ⟨rfl, HA, HB, GrL.refl _ _⟩
theorem mk_tells_1 (wd : Bool) (w : World) : Calls Tryz.prog 169 #[.int .u8 1, .bool wd] w fun e w' => ∃ v, e = .returned v ∧ TellV v w w' (holdsM 1 wd) ∧ Gr w w' := by
  go_enter Tryz.func169, Tryz.ntmps169
  go_wp2_with (go_at_call 233; refine (mk_alike wd _).mono ?_; rintro e w1 ⟨v, rfl, hv, hg⟩)
  go_ret
  exact ⟨v, rfl, hv, hg⟩
theorem mk_tells_5 (wd : Bool) (w : World) : Calls Tryz.prog 169 #[.int .u8 5, .bool wd] w fun e w' => ∃ v, e = .returned v ∧ TellV v w w' (holdsM 5 wd) ∧ Gr w w' := by
  go_enter Tryz.func169, Tryz.ntmps169
  go_wp2_with (go_at_call 234; refine (mk_unlike wd _).mono ?_; rintro e w1 ⟨v, rfl, hv, hg⟩)
  go_ret
  exact ⟨v, rfl, hv, hg⟩
theorem mk_tells_4 (wd : Bool) (w : World) : Calls Tryz.prog 169 #[.int .u8 4, .bool wd] w fun e w' => ∃ v, e = .returned v ∧ TellV v w w' (holdsM 4 wd) ∧ Gr w w' := by
  go_enter Tryz.func169, Tryz.ntmps169
  go_wp2_with (go_at_call 235; refine (mk_set wd _).mono ?_; rintro e w1 ⟨v, rfl, hv, hg⟩)
  go_ret
  exact ⟨v, rfl, hv, hg⟩
theorem mk_tells_2 (wd : Bool) (w : World) : Calls Tryz.prog 169 #[.int .u8 2, .bool wd] w fun e w' => ∃ v, e = .returned v ∧ TellV v w w' (holdsM 2 wd) ∧ Gr w w' := by
  go_enter Tryz.func169, Tryz.ntmps169
  go_wp2_with (go_at_call 236; refine (mk_greater_U wd 1 (.inr rfl) _).mono ?_; rintro e w1 ⟨v, rfl, hv, hg⟩)
  go_ret
  exact ⟨v, rfl, hv, hg⟩
theorem mk_tells_3 (wd : Bool) (w : World) : Calls Tryz.prog 169 #[.int .u8 3, .bool wd] w fun e w' => ∃ v, e = .returned v ∧ TellV v w w' (holdsM 3 wd) ∧ Gr w w' := by
  go_enter Tryz.func169, Tryz.ntmps169
  go_wp2_with (go_at_call 236; refine (mk_greater_U wd 0 (.inl rfl) _).mono ?_; rintro e w1 ⟨v, rfl, hv, hg⟩)
  go_ret
  exact ⟨v, rfl, hv, hg⟩
theorem mk_tells_6 (wd : Bool) (w : World) : Calls Tryz.prog 169 #[.int .u8 6, .bool wd] w fun e w' => ∃ v, e = .returned v ∧ TellV v w w' (holdsM 6 wd) ∧ Gr w w' := by
  go_enter Tryz.func169, Tryz.ntmps169
  go_wp2_with (go_at_call 236; refine (mk_greater_S wd 1 (.inr rfl) _).mono ?_; rintro e w1 ⟨v, rfl, hv, hg⟩)
  go_ret
  exact ⟨v, rfl, hv, hg⟩
theorem mk_tells_7 (wd : Bool) (w : World) : Calls Tryz.prog 169 #[.int .u8 7, .bool wd] w fun e w' => ∃ v, e = .returned v ∧ TellV v w w' (holdsM 7 wd) ∧ Gr w w' := by
  go_enter Tryz.func169, Tryz.ntmps169
  go_wp2_with (go_at_call 236; refine (mk_greater_S wd 0 (.inl rfl) _).mono ?_; rintro e w1 ⟨v, rfl, hv, hg⟩)
  go_ret
  exact ⟨v, rfl, hv, hg⟩
theorem mk_turned_10 (wd : Bool) (w : World) : Calls Tryz.prog 237 #[.int .u8 10, .bool wd] w fun e w' => ∃ v, e = .returned v ∧ TellV v w w' (holdsM 10 wd) ∧ Gr w w' := by
  have ct : ∀ w, Calls Tryz.prog 36 #[.int .u8 10] w fun e w' => e = .returned (.tuple #[.int .u8 2, .bool true]) ∧ w' = w := fun w => Wd.turn_any 10 w
  go_enter Tryz.func237, Tryz.ntmps237
  go_wp2_with (first | (go_at_call 36; refine (ct _).mono ?_; rintro e w' ⟨rfl, hw⟩; rw [hw]; clear hw) | (go_at_call 169; refine (mk_tells_2 wd _).mono ?_; rintro e w1 ⟨v, rfl, ⟨k, cs, rfl, hf, hT⟩, hg⟩))
  have hsz := hg.below.size
  go_ret
  refine ⟨_, rfl, ⟨272, #[.pointer (some ⟨w1.heap.size, 0, none⟩)], rfl, fun _ _ _ => by go_simp, ?_⟩, Gr.alloc hg _ _⟩
  intro w2 g p q a b hp hq hpq ga gb HA HB
  have HO : AtA w2 w1.heap.size #[.func (.func k) #[] cs] 102 := (AtA.newb w1 rfl _ _).gr g
  have e : holdsM 10 wd a b = swapM (holdsM 2 wd b a) := rfl
  rw [e]
  exact turned_any k cs hf a b _ p q w2 hpq HA HB w1.heap.size (by omega) (by omega) HO (hT w2 ((Gr.alloc (Gr.refl w1) _ _).trans g) q p b a hq hp (Ne.symm hpq) gb ga HB HA)
theorem mk_tells_10 (wd : Bool) (w : World) : Calls Tryz.prog 169 #[.int .u8 10, .bool wd] w fun e w' => ∃ v, e = .returned v ∧ TellV v w w' (holdsM 10 wd) ∧ Gr w w' := by
  go_enter Tryz.func169, Tryz.ntmps169
  go_wp2_with (go_at_call 237; refine (mk_turned_10 wd _).mono ?_; rintro e w1 ⟨v, rfl, hv, hg⟩)
  go_ret
  exact ⟨v, rfl, hv, hg⟩
theorem mk_turned_11 (wd : Bool) (w : World) : Calls Tryz.prog 237 #[.int .u8 11, .bool wd] w fun e w' => ∃ v, e = .returned v ∧ TellV v w w' (holdsM 11 wd) ∧ Gr w w' := by
  have ct : ∀ w, Calls Tryz.prog 36 #[.int .u8 11] w fun e w' => e = .returned (.tuple #[.int .u8 3, .bool true]) ∧ w' = w := fun w => Wd.turn_any 11 w
  go_enter Tryz.func237, Tryz.ntmps237
  go_wp2_with (first | (go_at_call 36; refine (ct _).mono ?_; rintro e w' ⟨rfl, hw⟩; rw [hw]; clear hw) | (go_at_call 169; refine (mk_tells_3 wd _).mono ?_; rintro e w1 ⟨v, rfl, ⟨k, cs, rfl, hf, hT⟩, hg⟩))
  have hsz := hg.below.size
  go_ret
  refine ⟨_, rfl, ⟨272, #[.pointer (some ⟨w1.heap.size, 0, none⟩)], rfl, fun _ _ _ => by go_simp, ?_⟩, Gr.alloc hg _ _⟩
  intro w2 g p q a b hp hq hpq ga gb HA HB
  have HO : AtA w2 w1.heap.size #[.func (.func k) #[] cs] 102 := (AtA.newb w1 rfl _ _).gr g
  have e : holdsM 11 wd a b = swapM (holdsM 3 wd b a) := rfl
  rw [e]
  exact turned_any k cs hf a b _ p q w2 hpq HA HB w1.heap.size (by omega) (by omega) HO (hT w2 ((Gr.alloc (Gr.refl w1) _ _).trans g) q p b a hq hp (Ne.symm hpq) gb ga HB HA)
theorem mk_tells_11 (wd : Bool) (w : World) : Calls Tryz.prog 169 #[.int .u8 11, .bool wd] w fun e w' => ∃ v, e = .returned v ∧ TellV v w w' (holdsM 11 wd) ∧ Gr w w' := by
  go_enter Tryz.func169, Tryz.ntmps169
  go_wp2_with (go_at_call 237; refine (mk_turned_11 wd _).mono ?_; rintro e w1 ⟨v, rfl, hv, hg⟩)
  go_ret
  exact ⟨v, rfl, hv, hg⟩
theorem mk_turned_12 (wd : Bool) (w : World) : Calls Tryz.prog 237 #[.int .u8 12, .bool wd] w fun e w' => ∃ v, e = .returned v ∧ TellV v w w' (holdsM 12 wd) ∧ Gr w w' := by
  have ct : ∀ w, Calls Tryz.prog 36 #[.int .u8 12] w fun e w' => e = .returned (.tuple #[.int .u8 6, .bool true]) ∧ w' = w := fun w => Wd.turn_any 12 w
  go_enter Tryz.func237, Tryz.ntmps237
  go_wp2_with (first | (go_at_call 36; refine (ct _).mono ?_; rintro e w' ⟨rfl, hw⟩; rw [hw]; clear hw) | (go_at_call 169; refine (mk_tells_6 wd _).mono ?_; rintro e w1 ⟨v, rfl, ⟨k, cs, rfl, hf, hT⟩, hg⟩))
  have hsz := hg.below.size
  go_ret
  refine ⟨_, rfl, ⟨272, #[.pointer (some ⟨w1.heap.size, 0, none⟩)], rfl, fun _ _ _ => by go_simp, ?_⟩, Gr.alloc hg _ _⟩
  intro w2 g p q a b hp hq hpq ga gb HA HB
  have HO : AtA w2 w1.heap.size #[.func (.func k) #[] cs] 102 := (AtA.newb w1 rfl _ _).gr g
  have e : holdsM 12 wd a b = swapM (holdsM 6 wd b a) := rfl
  rw [e]
  exact turned_any k cs hf a b _ p q w2 hpq HA HB w1.heap.size (by omega) (by omega) HO (hT w2 ((Gr.alloc (Gr.refl w1) _ _).trans g) q p b a hq hp (Ne.symm hpq) gb ga HB HA)
theorem mk_tells_12 (wd : Bool) (w : World) : Calls Tryz.prog 169 #[.int .u8 12, .bool wd] w fun e w' => ∃ v, e = .returned v ∧ TellV v w w' (holdsM 12 wd) ∧ Gr w w' := by
  go_enter Tryz.func169, Tryz.ntmps169
  go_wp2_with (go_at_call 237; refine (mk_turned_12 wd _).mono ?_; rintro e w1 ⟨v, rfl, hv, hg⟩)
  go_ret
  exact ⟨v, rfl, hv, hg⟩
theorem mk_turned_13 (wd : Bool) (w : World) : Calls Tryz.prog 237 #[.int .u8 13, .bool wd] w fun e w' => ∃ v, e = .returned v ∧ TellV v w w' (holdsM 13 wd) ∧ Gr w w' := by
  have ct : ∀ w, Calls Tryz.prog 36 #[.int .u8 13] w fun e w' => e = .returned (.tuple #[.int .u8 7, .bool true]) ∧ w' = w := fun w => Wd.turn_any 13 w
  go_enter Tryz.func237, Tryz.ntmps237
  go_wp2_with (first | (go_at_call 36; refine (ct _).mono ?_; rintro e w' ⟨rfl, hw⟩; rw [hw]; clear hw) | (go_at_call 169; refine (mk_tells_7 wd _).mono ?_; rintro e w1 ⟨v, rfl, ⟨k, cs, rfl, hf, hT⟩, hg⟩))
  have hsz := hg.below.size
  go_ret
  refine ⟨_, rfl, ⟨272, #[.pointer (some ⟨w1.heap.size, 0, none⟩)], rfl, fun _ _ _ => by go_simp, ?_⟩, Gr.alloc hg _ _⟩
  intro w2 g p q a b hp hq hpq ga gb HA HB
  have HO : AtA w2 w1.heap.size #[.func (.func k) #[] cs] 102 := (AtA.newb w1 rfl _ _).gr g
  have e : holdsM 13 wd a b = swapM (holdsM 7 wd b a) := rfl
  rw [e]
  exact turned_any k cs hf a b _ p q w2 hpq HA HB w1.heap.size (by omega) (by omega) HO (hT w2 ((Gr.alloc (Gr.refl w1) _ _).trans g) q p b a hq hp (Ne.symm hpq) gb ga HB HA)
theorem mk_tells_13 (wd : Bool) (w : World) : Calls Tryz.prog 169 #[.int .u8 13, .bool wd] w fun e w' => ∃ v, e = .returned v ∧ TellV v w w' (holdsM 13 wd) ∧ Gr w w' := by
  go_enter Tryz.func169, Tryz.ntmps169
  go_wp2_with (go_at_call 237; refine (mk_turned_13 wd _).mono ?_; rintro e w1 ⟨v, rfl, hv, hg⟩)
  go_ret
  exact ⟨v, rfl, hv, hg⟩
/-- What is known where it is so, or not. -/
def tellM (c : Int) (wd so : Bool) (a b : Bd) : Option (Bd × Bd) := if so then holdsM c wd a b else if c = 0 then none else if c = 4 then clearM wd a b else holdsM (Wd.otherV c) wd a b
theorem told_0_t (wd : Bool) (w : World) : Calls Tryz.prog 81 #[.int .u8 0, .bool wd, .bool true] w fun e w' => ∃ v, e = .returned v ∧ TellV v w w' (tellM 0 wd true) ∧ Gr w w' := by
  go_enter Tryz.func81, Tryz.ntmps81
  go_wp2_with (go_at_call 169; refine (mk_tells_0 wd _).mono ?_; rintro e w1 ⟨v, rfl, hv, hg⟩)
  go_ret
  exact ⟨v, rfl, hv, hg⟩
theorem told_0_f (wd : Bool) (w : World) : Calls Tryz.prog 81 #[.int .u8 0, .bool wd, .bool false] w fun e w' => ∃ v, e = .returned v ∧ TellV v w w' (tellM 0 wd false) ∧ Gr w w' := by
  have ct : ∀ w, Calls Tryz.prog 37 #[.int .u8 0] w fun e w' => e = .returned (.tuple #[.int .u8 0, .bool false]) ∧ w' = w := fun w => Wd.other_any 0 w
  go_enter Tryz.func81, Tryz.ntmps81
  go_wp2_with ((go_at_call 37; refine (ct _).mono ?_; rintro e w' ⟨rfl, hw⟩; rw [hw]; clear hw))
  go_ret
  refine ⟨_, rfl, ⟨170, #[], rfl, fun _ _ _ => by go_simp, ?_⟩, Gr.refl w⟩
  intro w1 g p q a b hp hq hpq ga gb HA HB
  show Calls Tryz.prog 170 #[.pointer (some ⟨p, 0, none⟩), .pointer (some ⟨q, 0, none⟩)] w1 fun e w' => e = .returned (.bool false) ∧ GrL [p, q] w1 w'
  go_enter Tryz.func170, Tryz.ntmps170
  go_wp2
  go_ret
  exact ⟨rfl, GrL.refl _ _⟩
theorem told_1_t (wd : Bool) (w : World) : Calls Tryz.prog 81 #[.int .u8 1, .bool wd, .bool true] w fun e w' => ∃ v, e = .returned v ∧ TellV v w w' (tellM 1 wd true) ∧ Gr w w' := by
  go_enter Tryz.func81, Tryz.ntmps81
  go_wp2_with (go_at_call 169; refine (mk_tells_1 wd _).mono ?_; rintro e w1 ⟨v, rfl, hv, hg⟩)
  go_ret
  exact ⟨v, rfl, hv, hg⟩
theorem told_1_f (wd : Bool) (w : World) : Calls Tryz.prog 81 #[.int .u8 1, .bool wd, .bool false] w fun e w' => ∃ v, e = .returned v ∧ TellV v w w' (tellM 1 wd false) ∧ Gr w w' := by
  have ct : ∀ w, Calls Tryz.prog 37 #[.int .u8 1] w fun e w' => e = .returned (.tuple #[.int .u8 5, .bool true]) ∧ w' = w := fun w => Wd.other_any 1 w
  go_enter Tryz.func81, Tryz.ntmps81
  go_wp2_with (first | (go_at_call 37; refine (ct _).mono ?_; rintro e w' ⟨rfl, hw⟩; rw [hw]; clear hw) | (go_at_call 169; refine (mk_tells_5 wd _).mono ?_; rintro e w1 ⟨v, rfl, hv, hg⟩))
  go_ret
  exact ⟨v, rfl, hv, hg⟩
theorem told_2_t (wd : Bool) (w : World) : Calls Tryz.prog 81 #[.int .u8 2, .bool wd, .bool true] w fun e w' => ∃ v, e = .returned v ∧ TellV v w w' (tellM 2 wd true) ∧ Gr w w' := by
  go_enter Tryz.func81, Tryz.ntmps81
  go_wp2_with (go_at_call 169; refine (mk_tells_2 wd _).mono ?_; rintro e w1 ⟨v, rfl, hv, hg⟩)
  go_ret
  exact ⟨v, rfl, hv, hg⟩
theorem told_2_f (wd : Bool) (w : World) : Calls Tryz.prog 81 #[.int .u8 2, .bool wd, .bool false] w fun e w' => ∃ v, e = .returned v ∧ TellV v w w' (tellM 2 wd false) ∧ Gr w w' := by
  have ct : ∀ w, Calls Tryz.prog 37 #[.int .u8 2] w fun e w' => e = .returned (.tuple #[.int .u8 11, .bool true]) ∧ w' = w := fun w => Wd.other_any 2 w
  go_enter Tryz.func81, Tryz.ntmps81
  go_wp2_with (first | (go_at_call 37; refine (ct _).mono ?_; rintro e w' ⟨rfl, hw⟩; rw [hw]; clear hw) | (go_at_call 169; refine (mk_tells_11 wd _).mono ?_; rintro e w1 ⟨v, rfl, hv, hg⟩))
  go_ret
  exact ⟨v, rfl, hv, hg⟩
theorem told_3_t (wd : Bool) (w : World) : Calls Tryz.prog 81 #[.int .u8 3, .bool wd, .bool true] w fun e w' => ∃ v, e = .returned v ∧ TellV v w w' (tellM 3 wd true) ∧ Gr w w' := by
  go_enter Tryz.func81, Tryz.ntmps81
  go_wp2_with (go_at_call 169; refine (mk_tells_3 wd _).mono ?_; rintro e w1 ⟨v, rfl, hv, hg⟩)
  go_ret
  exact ⟨v, rfl, hv, hg⟩
theorem told_3_f (wd : Bool) (w : World) : Calls Tryz.prog 81 #[.int .u8 3, .bool wd, .bool false] w fun e w' => ∃ v, e = .returned v ∧ TellV v w w' (tellM 3 wd false) ∧ Gr w w' := by
  have ct : ∀ w, Calls Tryz.prog 37 #[.int .u8 3] w fun e w' => e = .returned (.tuple #[.int .u8 10, .bool true]) ∧ w' = w := fun w => Wd.other_any 3 w
  go_enter Tryz.func81, Tryz.ntmps81
  go_wp2_with (first | (go_at_call 37; refine (ct _).mono ?_; rintro e w' ⟨rfl, hw⟩; rw [hw]; clear hw) | (go_at_call 169; refine (mk_tells_10 wd _).mono ?_; rintro e w1 ⟨v, rfl, hv, hg⟩))
  go_ret
  exact ⟨v, rfl, hv, hg⟩
theorem told_4_t (wd : Bool) (w : World) : Calls Tryz.prog 81 #[.int .u8 4, .bool wd, .bool true] w fun e w' => ∃ v, e = .returned v ∧ TellV v w w' (tellM 4 wd true) ∧ Gr w w' := by
  go_enter Tryz.func81, Tryz.ntmps81
  go_wp2_with (go_at_call 169; refine (mk_tells_4 wd _).mono ?_; rintro e w1 ⟨v, rfl, hv, hg⟩)
  go_ret
  exact ⟨v, rfl, hv, hg⟩
theorem told_4_f (wd : Bool) (w : World) : Calls Tryz.prog 81 #[.int .u8 4, .bool wd, .bool false] w fun e w' => ∃ v, e = .returned v ∧ TellV v w w' (tellM 4 wd false) ∧ Gr w w' := by
  have ct : ∀ w, Calls Tryz.prog 37 #[.int .u8 4] w fun e w' => e = .returned (.tuple #[.int .u8 0, .bool false]) ∧ w' = w := fun w => Wd.other_any 4 w
  go_enter Tryz.func81, Tryz.ntmps81
  go_wp2_with (first | (go_at_call 37; refine (ct _).mono ?_; rintro e w' ⟨rfl, hw⟩; rw [hw]; clear hw) | (go_at_call 171; refine (mk_clear wd _).mono ?_; rintro e w1 ⟨v, rfl, hv, hg⟩))
  go_ret
  exact ⟨v, rfl, hv, hg⟩
theorem told_5_t (wd : Bool) (w : World) : Calls Tryz.prog 81 #[.int .u8 5, .bool wd, .bool true] w fun e w' => ∃ v, e = .returned v ∧ TellV v w w' (tellM 5 wd true) ∧ Gr w w' := by
  go_enter Tryz.func81, Tryz.ntmps81
  go_wp2_with (go_at_call 169; refine (mk_tells_5 wd _).mono ?_; rintro e w1 ⟨v, rfl, hv, hg⟩)
  go_ret
  exact ⟨v, rfl, hv, hg⟩
theorem told_5_f (wd : Bool) (w : World) : Calls Tryz.prog 81 #[.int .u8 5, .bool wd, .bool false] w fun e w' => ∃ v, e = .returned v ∧ TellV v w w' (tellM 5 wd false) ∧ Gr w w' := by
  have ct : ∀ w, Calls Tryz.prog 37 #[.int .u8 5] w fun e w' => e = .returned (.tuple #[.int .u8 1, .bool true]) ∧ w' = w := fun w => Wd.other_any 5 w
  go_enter Tryz.func81, Tryz.ntmps81
  go_wp2_with (first | (go_at_call 37; refine (ct _).mono ?_; rintro e w' ⟨rfl, hw⟩; rw [hw]; clear hw) | (go_at_call 169; refine (mk_tells_1 wd _).mono ?_; rintro e w1 ⟨v, rfl, hv, hg⟩))
  go_ret
  exact ⟨v, rfl, hv, hg⟩
theorem told_6_t (wd : Bool) (w : World) : Calls Tryz.prog 81 #[.int .u8 6, .bool wd, .bool true] w fun e w' => ∃ v, e = .returned v ∧ TellV v w w' (tellM 6 wd true) ∧ Gr w w' := by
  go_enter Tryz.func81, Tryz.ntmps81
  go_wp2_with (go_at_call 169; refine (mk_tells_6 wd _).mono ?_; rintro e w1 ⟨v, rfl, hv, hg⟩)
  go_ret
  exact ⟨v, rfl, hv, hg⟩
theorem told_6_f (wd : Bool) (w : World) : Calls Tryz.prog 81 #[.int .u8 6, .bool wd, .bool false] w fun e w' => ∃ v, e = .returned v ∧ TellV v w w' (tellM 6 wd false) ∧ Gr w w' := by
  have ct : ∀ w, Calls Tryz.prog 37 #[.int .u8 6] w fun e w' => e = .returned (.tuple #[.int .u8 13, .bool true]) ∧ w' = w := fun w => Wd.other_any 6 w
  go_enter Tryz.func81, Tryz.ntmps81
  go_wp2_with (first | (go_at_call 37; refine (ct _).mono ?_; rintro e w' ⟨rfl, hw⟩; rw [hw]; clear hw) | (go_at_call 169; refine (mk_tells_13 wd _).mono ?_; rintro e w1 ⟨v, rfl, hv, hg⟩))
  go_ret
  exact ⟨v, rfl, hv, hg⟩
theorem told_7_t (wd : Bool) (w : World) : Calls Tryz.prog 81 #[.int .u8 7, .bool wd, .bool true] w fun e w' => ∃ v, e = .returned v ∧ TellV v w w' (tellM 7 wd true) ∧ Gr w w' := by
  go_enter Tryz.func81, Tryz.ntmps81
  go_wp2_with (go_at_call 169; refine (mk_tells_7 wd _).mono ?_; rintro e w1 ⟨v, rfl, hv, hg⟩)
  go_ret
  exact ⟨v, rfl, hv, hg⟩
theorem told_7_f (wd : Bool) (w : World) : Calls Tryz.prog 81 #[.int .u8 7, .bool wd, .bool false] w fun e w' => ∃ v, e = .returned v ∧ TellV v w w' (tellM 7 wd false) ∧ Gr w w' := by
  have ct : ∀ w, Calls Tryz.prog 37 #[.int .u8 7] w fun e w' => e = .returned (.tuple #[.int .u8 12, .bool true]) ∧ w' = w := fun w => Wd.other_any 7 w
  go_enter Tryz.func81, Tryz.ntmps81
  go_wp2_with (first | (go_at_call 37; refine (ct _).mono ?_; rintro e w' ⟨rfl, hw⟩; rw [hw]; clear hw) | (go_at_call 169; refine (mk_tells_12 wd _).mono ?_; rintro e w1 ⟨v, rfl, hv, hg⟩))
  go_ret
  exact ⟨v, rfl, hv, hg⟩
theorem told_10_t (wd : Bool) (w : World) : Calls Tryz.prog 81 #[.int .u8 10, .bool wd, .bool true] w fun e w' => ∃ v, e = .returned v ∧ TellV v w w' (tellM 10 wd true) ∧ Gr w w' := by
  go_enter Tryz.func81, Tryz.ntmps81
  go_wp2_with (go_at_call 169; refine (mk_tells_10 wd _).mono ?_; rintro e w1 ⟨v, rfl, hv, hg⟩)
  go_ret
  exact ⟨v, rfl, hv, hg⟩
theorem told_10_f (wd : Bool) (w : World) : Calls Tryz.prog 81 #[.int .u8 10, .bool wd, .bool false] w fun e w' => ∃ v, e = .returned v ∧ TellV v w w' (tellM 10 wd false) ∧ Gr w w' := by
  have ct : ∀ w, Calls Tryz.prog 37 #[.int .u8 10] w fun e w' => e = .returned (.tuple #[.int .u8 3, .bool true]) ∧ w' = w := fun w => Wd.other_any 10 w
  go_enter Tryz.func81, Tryz.ntmps81
  go_wp2_with (first | (go_at_call 37; refine (ct _).mono ?_; rintro e w' ⟨rfl, hw⟩; rw [hw]; clear hw) | (go_at_call 169; refine (mk_tells_3 wd _).mono ?_; rintro e w1 ⟨v, rfl, hv, hg⟩))
  go_ret
  exact ⟨v, rfl, hv, hg⟩
theorem told_11_t (wd : Bool) (w : World) : Calls Tryz.prog 81 #[.int .u8 11, .bool wd, .bool true] w fun e w' => ∃ v, e = .returned v ∧ TellV v w w' (tellM 11 wd true) ∧ Gr w w' := by
  go_enter Tryz.func81, Tryz.ntmps81
  go_wp2_with (go_at_call 169; refine (mk_tells_11 wd _).mono ?_; rintro e w1 ⟨v, rfl, hv, hg⟩)
  go_ret
  exact ⟨v, rfl, hv, hg⟩
theorem told_11_f (wd : Bool) (w : World) : Calls Tryz.prog 81 #[.int .u8 11, .bool wd, .bool false] w fun e w' => ∃ v, e = .returned v ∧ TellV v w w' (tellM 11 wd false) ∧ Gr w w' := by
  have ct : ∀ w, Calls Tryz.prog 37 #[.int .u8 11] w fun e w' => e = .returned (.tuple #[.int .u8 2, .bool true]) ∧ w' = w := fun w => Wd.other_any 11 w
  go_enter Tryz.func81, Tryz.ntmps81
  go_wp2_with (first | (go_at_call 37; refine (ct _).mono ?_; rintro e w' ⟨rfl, hw⟩; rw [hw]; clear hw) | (go_at_call 169; refine (mk_tells_2 wd _).mono ?_; rintro e w1 ⟨v, rfl, hv, hg⟩))
  go_ret
  exact ⟨v, rfl, hv, hg⟩
theorem told_12_t (wd : Bool) (w : World) : Calls Tryz.prog 81 #[.int .u8 12, .bool wd, .bool true] w fun e w' => ∃ v, e = .returned v ∧ TellV v w w' (tellM 12 wd true) ∧ Gr w w' := by
  go_enter Tryz.func81, Tryz.ntmps81
  go_wp2_with (go_at_call 169; refine (mk_tells_12 wd _).mono ?_; rintro e w1 ⟨v, rfl, hv, hg⟩)
  go_ret
  exact ⟨v, rfl, hv, hg⟩
theorem told_12_f (wd : Bool) (w : World) : Calls Tryz.prog 81 #[.int .u8 12, .bool wd, .bool false] w fun e w' => ∃ v, e = .returned v ∧ TellV v w w' (tellM 12 wd false) ∧ Gr w w' := by
  have ct : ∀ w, Calls Tryz.prog 37 #[.int .u8 12] w fun e w' => e = .returned (.tuple #[.int .u8 7, .bool true]) ∧ w' = w := fun w => Wd.other_any 12 w
  go_enter Tryz.func81, Tryz.ntmps81
  go_wp2_with (first | (go_at_call 37; refine (ct _).mono ?_; rintro e w' ⟨rfl, hw⟩; rw [hw]; clear hw) | (go_at_call 169; refine (mk_tells_7 wd _).mono ?_; rintro e w1 ⟨v, rfl, hv, hg⟩))
  go_ret
  exact ⟨v, rfl, hv, hg⟩
theorem told_13_t (wd : Bool) (w : World) : Calls Tryz.prog 81 #[.int .u8 13, .bool wd, .bool true] w fun e w' => ∃ v, e = .returned v ∧ TellV v w w' (tellM 13 wd true) ∧ Gr w w' := by
  go_enter Tryz.func81, Tryz.ntmps81
  go_wp2_with (go_at_call 169; refine (mk_tells_13 wd _).mono ?_; rintro e w1 ⟨v, rfl, hv, hg⟩)
  go_ret
  exact ⟨v, rfl, hv, hg⟩
theorem told_13_f (wd : Bool) (w : World) : Calls Tryz.prog 81 #[.int .u8 13, .bool wd, .bool false] w fun e w' => ∃ v, e = .returned v ∧ TellV v w w' (tellM 13 wd false) ∧ Gr w w' := by
  have ct : ∀ w, Calls Tryz.prog 37 #[.int .u8 13] w fun e w' => e = .returned (.tuple #[.int .u8 6, .bool true]) ∧ w' = w := fun w => Wd.other_any 13 w
  go_enter Tryz.func81, Tryz.ntmps81
  go_wp2_with (first | (go_at_call 37; refine (ct _).mono ?_; rintro e w' ⟨rfl, hw⟩; rw [hw]; clear hw) | (go_at_call 169; refine (mk_tells_6 wd _).mono ?_; rintro e w1 ⟨v, rfl, hv, hg⟩))
  go_ret
  exact ⟨v, rfl, hv, hg⟩
def codeM (c : Int) : Prop := c = 0 ∨ c = 1 ∨ c = 2 ∨ c = 3 ∨ c = 4 ∨ c = 5 ∨ c = 6 ∨ c = 7 ∨ c = 10 ∨ c = 11 ∨ c = 12 ∨ c = 13
theorem k_told (c : Int) (hc : codeM c) (wd so : Bool) (w : World) : Calls Tryz.prog 81 #[.int .u8 c, .bool wd, .bool so] w fun e w' => ∃ v, e = .returned v ∧ TellV v w w' (tellM c wd so) ∧ Gr w w' := by
  rcases hc with rfl | rfl | rfl | rfl | rfl | rfl | rfl | rfl | rfl | rfl | rfl | rfl
  · cases so with
    | true => exact told_0_t wd w
    | false => exact told_0_f wd w
  · cases so with
    | true => exact told_1_t wd w
    | false => exact told_1_f wd w
  · cases so with
    | true => exact told_2_t wd w
    | false => exact told_2_f wd w
  · cases so with
    | true => exact told_3_t wd w
    | false => exact told_3_f wd w
  · cases so with
    | true => exact told_4_t wd w
    | false => exact told_4_f wd w
  · cases so with
    | true => exact told_5_t wd w
    | false => exact told_5_f wd w
  · cases so with
    | true => exact told_6_t wd w
    | false => exact told_6_f wd w
  · cases so with
    | true => exact told_7_t wd w
    | false => exact told_7_f wd w
  · cases so with
    | true => exact told_10_t wd w
    | false => exact told_10_f wd w
  · cases so with
    | true => exact told_11_t wd w
    | false => exact told_11_f wd w
  · cases so with
    | true => exact told_12_t wd w
    | false => exact told_12_f wd w
  · cases so with
    | true => exact told_13_t wd w
    | false => exact told_13_f wd w
end Go.Proofs.YtcbcijibgpaipaaGreat
