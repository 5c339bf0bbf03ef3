/- Towards the statements of package heap (layer 14): Free. -/
import Derived.Test.YtooblonafnlfcaaDoorPF
namespace Go.Proofs.YtooblonafnlfcaaDoor
open Go.ChangeShapes Go.WideShapes Go.ChangeAt Go.RowKit
set_option linter.unusedVariables false
set_option linter.unusedSimpArgs false
set_option maxRecDepth 20000
variable {Yo : Nat → Prop}
theorem or_zero (w : World) (g : Nat) (c0 : w.cell? ⟨g, 0, none⟩ = some (.int .i64 0)) (c1 : w.cell? ⟨g, 1, none⟩ = some (.int .i64 0)) : Calls Tryd.prog 49 #[.slice (some ⟨g, 0, none⟩) 2 2] w fun e w' => e = .returned (.int .i64 0) ∧ w' = w := by
  go_enter Tryd.func49, Tryd.ntmps49
  go_wp2
  go_rounds 4
  all_goals go_returns
  all_goals exact ⟨rfl, rfl⟩
theorem free_no (w : World) (B : Nat) (q : HQ) (room used : Int) (N : Int → Nat) (M : MJ) (ns : Nat) (A K : Nat → Nat) (n : Nat) (h : Hp Yo w B q room used N M ns A K n) (s : Int) (g : Nat) (hL : liveB M s g = false) :
    Calls Tryd.prog 25 #[.pointer (some ⟨q.b, 0, none⟩), .agg #[.int .i64 s, .int .u64 g]] w fun e w' => e = .returned (.int .i64 130) ∧ Below w.heap.size w w' := by
  have hbe := (Below.refl w.heap.size w).alloc (Nat.le_refl _) (.cells #[.int .i64 s, .int .u64 g] 34)
  have k1 := object_no _ _ _ _ _ _ _ _ _ _ _ (h.kept hbe) s g hL
  go_enter Tryd.func25, Tryd.ntmps25
  go_wp2_with (go_at_call 41; refine k1.mono ?_; rintro e w1 ⟨rfl, hb⟩)
  all_goals go_returns
  all_goals exact ⟨rfl, hbe.trans (hb.mono hbe.size)⟩
theorem free_held (w : World) (B : Nat) (q : HQ) (room used : Int) (N : Int → Nat) (M : MJ) (ns : Nat) (A K : Nat → Nat) (n : Nat) (h : Hp Yo w B q room used N M ns A K n) (k : Nat) (o : Oj) (hM : M k = some o) (hp : 0 < o.c) :
    Calls Tryd.prog 25 #[.pointer (some ⟨q.b, 0, none⟩), .agg #[.int .i64 k, .int .u64 o.g]] w fun e w' => e = .returned (.int .i64 3) ∧ Below w.heap.size w w' := by
  have hbe := (Below.refl w.heap.size w).alloc (Nat.le_refl _) (.cells #[.int .i64 k, .int .u64 o.g] 34)
  have h1 := h.kept hbe
  have k1 := object_yes _ _ _ _ _ _ _ _ _ _ _ h1 k o hM
  have dp : decide (0 < o.c) = true := by simpa using hp
  go_enter Tryd.func25, Tryd.ntmps25
  go_wp2_with (first | (go_at_call 41; refine k1.mono ?_; go_loud (rintro e w1 ⟨rfl, hb⟩; have h2 := (h1.kept hb).cellsO hM; obtain ⟨d0, d1, d2, d3⟩ := h2; have k2 := held_any w1 (A k) o.c d0; rw [dp] at k2)) | (go_at_call 48; refine k2.mono ?_; rintro e w' ⟨rfl, hw⟩; rw [hw]; clear hw))
  all_goals go_returns
  all_goals exact ⟨rfl, hbe.trans (hb.mono hbe.size)⟩
theorem pOf_del (M : MJ) (A : Nat → Nat) (k : Nat) : pOf (updM M k none) A = updF (pOf M A) k none := by
  funext s
  unfold pOf updF
  rw [getM_upd]
  by_cases e : s = k
  · rw [if_pos e, if_pos e]; rfl
  · rw [if_neg e, if_neg e]
theorem lOf_del (M : MJ) (k : Nat) : lOf (updM M k none) = H.updL (lOf M) k none := by
  funext s
  unfold lOf H.updL
  rw [getM_upd]
  by_cases e : s = k
  · rw [if_pos e, if_pos e]; rfl
  · rw [if_neg e, if_neg e]
theorem tOf_del (M : MJ) (K : Nat → Nat) (k : Nat) : tOf (updM M k none) K = upd (tOf M K) k none := by
  funext j
  unfold tOf
  by_cases ej : j = k
  · subst ej; rw [updM_self, upd_self]; rfl
  · rw [updM_ne _ _ ej, upd_ne _ _ ej]
theorem Ho.del {w w2 : World} {B : Nat} {q : HQ} {M : MJ} {A : Nat → Nat} {n : Nat} (h : Ho Yo w B q M A n) (k : Nat) (hi : IM w2 q.m3 n (updF (pOf M A) k none)) (ht : w.mapTurned w2 q.m3) : Ho Yo w2 B q (updM M k none) A n := by
  have hkc : ∀ (j : Nat) (cs : Array Value) (t : TypeId) (z : Nat × Nat), w.heap[j]? = some (.cells cs t z) → w2.heap[j]? = some (.cells cs t z) := fun j cs t z e =>
    (ht.grown.block j (heap_lt e) (by simp; rintro rfl; exact h.im.notc e)).trans e
  have hx : ∀ i x, updM M k none i = some x → M i = some x := fun i x e => by
    by_cases ei : i = k
    · subst ei; rw [updM_self] at e; cases e
    · rw [updM_ne _ _ ei] at e; exact e
  refine ⟨h.bB, hkc _ _ _ _ h.cells, h.b3, by rw [pOf_del]; exact hi, fun j x e => ?_, fun i j x y e1 e2 e3 => h.ap i j x y (hx _ _ e1) (hx _ _ e2) e3⟩
  obtain ⟨a, b, c⟩ := h.ob j x (hx _ _ e)
  exact ⟨a, hkc _ _ _ _ b, c⟩
set_option maxHeartbeats 2000000 in
theorem free_ok (w : World) (B : Nat) (q : HQ) (room used : Int) (N : Int → Nat) (M : MJ) (ns : Nat) (A K : Nat → Nat) (n : Nat) (h : Hp Yo w B q room used N M ns A K n) (hTab : Tab w) (hB0 : 0 < B) (k : Nat) (o : Oj) (hM : M k = some o) (hz0 : o.c = 0) :
    Calls Tryd.prog 25 #[.pointer (some ⟨q.b, 0, none⟩), .agg #[.int .i64 k, .int .u64 o.g]] w fun e w' => e = .returned (.int .i64 0) ∧ Hp Yo w' B q room (used - clsM o.bs.length) N (updM M k none) ns A K n ∧ Fq Yo B q w w' := by
  have hB := h.size
  have hbe := (Below.refl w.heap.size w).alloc (Nat.le_refl _) (.cells #[.int .i64 k, .int .u64 o.g] 34)
  have hz := heap_alloc_new w (.cells #[.int .i64 k, .int .u64 o.g] 34)
  have h1 := h.kept hbe
  have k1 := object_yes _ _ _ _ _ _ _ _ _ _ _ h1 k o hM
  obtain ⟨hkn, hI, hl1, hl2, -⟩ := h.key hM
  have dp : decide (0 < o.c) = false := by rw [hz0]; rfl
  go_enter Tryd.func25, Tryd.ntmps25
  go_upto_region 6 with (first | (go_at_call 41; refine k1.mono ?_; go_loud (rintro e w1 ⟨rfl, hb⟩; have h2 := (h1.kept hb).cellsO hM; obtain ⟨d0, d1, d2, d3⟩ := h2; have k2 := held_any w1 (A k) o.c d0; rw [dp] at k2)) | (go_at_call 48; refine k2.mono ?_; rintro e w' ⟨rfl, hw⟩; rw [hw]; clear hw))
  have h2 := h1.kept hb
  have hz2 := (hb.block _ (heap_lt hz)).trans hz
  have hbw := hbe.trans (hb.mono hbe.size)
  clear d0 d1 d2 d3 k1 k2 h1
  have c2 : w1.cell? ⟨q.b, 2, none⟩ = some (.map (some q.m3)) := by rw [cell_of h2.ow.cells]; rfl
  have z0 : w1.cell? ⟨w.heap.size, 0, none⟩ = some (.int .i64 k) := by rw [cell_of hz2]; rfl
  obtain ⟨W2, p2, i2, t2⟩ := IM.del (w := w1.drew) Tryd.underlying75 Tryd.underlying3 (h2.ow.im.keep rfl) (k : Int) 0
  go_region
  go_upto_region 7 with fail
  clear p2 c2 z0
  have hd := h2.kept (Below.refl _ w1).drew
  have hkc : ∀ (j : Nat) (cs : Array Value) (t : TypeId) (z : Nat × Nat), w1.heap[j]? = some (.cells cs t z) → W2.heap[j]? = some (.cells cs t z) := fun j cs t z e =>
    (t2.grown.block j (heap_lt e) (by simp; rintro rfl; exact h2.ow.im.notc e)).trans e
  have ho2 := hd.ow.del k i2 t2
  have hS2 := hd.sl.turned t2
  have hT2 : H.Tb W2 B q.t q.m1 q.m2 N (lOf M) n := tb_byK hd.tb fun j x hx hm => by
    rcases hm with ⟨hj, hm⟩ | ⟨cs, z, rfl⟩
    · exact (t2.grown.block j (heap_lt hx) (by simp; have := h.ne1; have := h.ne2; omega)).trans hx
    · exact hkc _ _ _ _ hx
  have hz4 := hkc _ _ _ _ hz2
  have hf2 : Fq Yo B q w W2 := ((Fq.of hbw hB).drew).trans (Fq.ofM t2 h.ow.b3 (by have := hbw.size; show B ≤ w1.heap.size; omega) h.yo.2.2.2.2)
  have hTab2 : Tab W2 := hTab.gr hB0 hf2.bel
  clear hkc hd t2 i2 hz2
  have e0 : W2.cell? ⟨q.b, 0, none⟩ = some (.pointer (some ⟨q.s, 0, none⟩)) := by rw [cell_of ho2.cells]; rfl
  have e1 : W2.cell? ⟨q.b, 1, none⟩ = some (.pointer (some ⟨q.t, 0, none⟩)) := by rw [cell_of ho2.cells]; rfl
  have z0 : W2.cell? ⟨w.heap.size, 0, none⟩ = some (.int .i64 k) := by rw [cell_of hz4]; rfl
  have z1 : W2.cell? ⟨w.heap.size, 1, none⟩ = some (.int .u64 o.g) := by rw [cell_of hz4]; rfl
  have kD := H.drop_ok W2.drew _ _ _ _ _ _ _ (hT2.below (Below.refl _ _).drew) k o.g (by rw [lOf_nat, hM]; rfl)
  go_region_held3 (fun w' => w'.cell? ⟨q.b, 0, none⟩ = some (.pointer (some ⟨q.s, 0, none⟩)) ∧ w'.cell? ⟨q.b, 1, none⟩ = some (.pointer (some ⟨q.t, 0, none⟩)) ∧ w'.cell? ⟨w.heap.size, 0, none⟩ = some (.int .i64 k) ∧ w'.cell? ⟨w.heap.size, 1, none⟩ = some (.int .u64 o.g)) ((refine ⟨?_, ?_, ?_, ?_⟩ <;> repeat (with_reducible (first | assumption | apply H.cell_dr | apply H.cell_al)))) (first
    | (go_at_call 50; go_loud (refine kD.mono ?_; rintro e v3 ⟨rfl, hT3, hF3⟩; have hd2 := hT2.below (Below.refl _ W2).drew; have ho3 := (ho2.below (Below.refl _ W2).drew).fh hd2 hF3 h.ne1 h.ne2; have hS3 := (hS2.kept (Below.refl _ W2).drew).fh hd2 hF3; have hz5 : v3.heap[w.heap.size]? = some (.cells #[.int .i64 k, .int .u64 o.g] 34 (0, 0)) := (hF3.keep _ (heap_lt hz4) (by (intro e; rw [e] at hz4; obtain ⟨F, hF1, _⟩ := hT2.im1; exact hF1.notc hz4)) (by (intro e; rw [e] at hz4; exact hT2.im2.notc hz4))).trans hz4; have e0' : v3.cell? ⟨q.b, 0, none⟩ = some (.pointer (some ⟨q.s, 0, none⟩)) := (by (rw [cell_of ho3.cells]; rfl)); have e1' : v3.cell? ⟨q.b, 1, none⟩ = some (.pointer (some ⟨q.t, 0, none⟩)) := (by (rw [cell_of ho3.cells]; rfl)); have z0' : v3.cell? ⟨w.heap.size, 0, none⟩ = some (.int .i64 k) := (by (rw [cell_of hz5]; rfl)); have z1' : v3.cell? ⟨w.heap.size, 1, none⟩ = some (.int .u64 o.g) := (by (rw [cell_of hz5]; rfl)); have hf3 := (hf2.drew).trans (Fq.ofT hF3 h.yo.2.2.1 h.yo.2.2.2.1); have hTab3 := hTab.gr hB0 hf3.bel; have kG := give_ok v3 _ _ _ _ _ _ hS3 hTab3 k hI (K k) o.bs (tOf_at hM) (by (have := h.us.le k; rw [tOf_at hM, clsO_some] at this; exact this))))
    | (go_at_call 51; go_loud (refine kG.mono ?_; rintro e v4 ⟨rfl, hS4, hF4⟩; obtain ⟨cs, hcs⟩ := hS3.cellsS; have ho4 := ho3.fr hF4 hcs; have hT4 := tb_fr hT3 hF4 hcs; have hz6 : v4.heap[w.heap.size]? = some (.cells #[.int .i64 k, .int .u64 o.g] 34 (0, 0)) := hF4.keep _ _ (by (rintro e; rw [e, hcs] at hz5; cases hz5)) hz5 (by (intro cs z e; cases e)) (by (intro cs z e; cases e)); have e0' : v4.cell? ⟨q.b, 0, none⟩ = some (.pointer (some ⟨q.s, 0, none⟩)) := (by (rw [cell_of ho4.cells]; rfl)); have e1' : v4.cell? ⟨q.b, 1, none⟩ = some (.pointer (some ⟨q.t, 0, none⟩)) := (by (rw [cell_of ho4.cells]; rfl)); have z0' : v4.cell? ⟨w.heap.size, 0, none⟩ = some (.int .i64 k) := (by (rw [cell_of hz6]; rfl)); have z1' : v4.cell? ⟨w.heap.size, 1, none⟩ = some (.int .u64 o.g) := (by (rw [cell_of hz6]; rfl)); have hf4 := hf3.trans (Fq.ofS hF4); have kO := or_zero (v4.alloc (.cells #[.int .i64 0, .int .i64 0] 26)) v4.heap.size (by simp) (by simp)))
    | (go_at_call 49; go_loud (refine kO.mono ?_; rintro e w' ⟨rfl, hw⟩; rw [hw]; clear hw)))
  go_wp2
  all_goals go_returns
  have hbn : Below v4.heap.size v4 (v4.alloc (.cells #[.int .i64 0, .int .i64 0] 26)) := (Below.refl _ v4).alloc (Nat.le_refl _) _
  have hu4 := h.us.upd k none
  rw [tOf_at hM, clsO_some, show used + clsO none - clsM o.bs.length = used - clsM o.bs.length by simp [clsO]] at hu4
  have h4 : Hp Yo v4 B q room (used - clsM o.bs.length) N (updM M k none) ns A K n :=
    ⟨ho4, by rw [tOf_del]; exact hS4, by rw [lOf_del]; exact hT4, by rw [tOf_del]; exact hu4, h.ne1, h.ne2, h.nn, h.n5, h.yo⟩
  exact ⟨rfl, h4.kept hbn, hf4.trans (Fq.of hbn h4.size)⟩
end Go.Proofs.YtooblonafnlfcaaDoor
