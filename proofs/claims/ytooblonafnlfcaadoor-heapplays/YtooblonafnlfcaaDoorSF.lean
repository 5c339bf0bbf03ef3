/- Towards the statements of package slab (layer 12): fill with a row more. -/
import Derived.Test.YtooblonafnlfcaaDoorSE
namespace Go.Proofs.YtooblonafnlfcaaDoor
open Go.ChangeShapes Go.WideShapes Go.ChangeAt Go.RowKit
set_option linter.unusedVariables false
set_option linter.unusedSimpArgs false
set_option maxRecDepth 20000
variable {Yo : Nat → Prop}
theorem build73 (W : World) : (Instr.buildSlice 98 1 #[(0, .agg zrow.toArray)]).run Tryd.prog W = .ok (.slice (some ⟨W.heap.size, 0, none⟩) 1 1) (W.alloc (.cells zrow.toArray 124)) := by kernel_rfl
theorem wpList_build73 {ops : Array Oper} {rest : List Oper} {o : Oper} {a : Act} {w : World} {Q : Exit → Act → World → Prop} (hgd : o.guard = none) (x : Operand) (ho : o.op = .buildSlice 98 1 #[(0, x)]) (hx : a.eval x = .agg zrow.toArray)
    (h : wpList Tryd.prog ops Q rest (a.put o.dst (.slice (some ⟨w.heap.size, 0, none⟩) 1 1)) (w.alloc (.cells zrow.toArray 124))) : wpList Tryd.prog ops Q (o :: rest) a w := by
  refine wpList_plain hgd fun K hK => ?_
  unfold Oper.wp execOp
  simp only [ho, List.map_toArray, List.map_cons, List.map_nil, hx, build73, Sem.run_bind, Sem.run_pure, Result.andThen_ok]
  exact hK _ _ h
theorem own_shape {w : World} {B n : Nat} {v : Value} {xs : List Value} (h : w.ownsRow B 124 65 v (n + 1) xs) : ∃ g cap, v = .slice (some ⟨g, 0, none⟩) (n + 1) cap := by
  rcases h.2 with ⟨_, h⟩ | ⟨g, cap, cur, e, _⟩
  · omega
  · exact ⟨g, cap, e⟩
theorem SlF.moreB {W W2 : World} {B b : Nat} {room used : Int} {T : Nat → Th} {n : Nat} (h : SlF Yo W B b room used T n) {v : Value} {xs : List Value}
    (hb : W.heap[b]? = some (.cells #[.bool true, .int .i64 room, .int .i64 used, v] 100 (0, 0))) (hv : W.ownsRow B 124 65 v n xs) {o : Obj} (hgr : (W.alloc o).grownBy W2 v.ownBlock) :
    W2.heap[b]? = some (.cells #[.bool true, .int .i64 room, .int .i64 used, v] 100 (0, 0)) := by
  have h1 := heap_al hb o
  rw [hgr.block b (heap_lt h1) ?_]
  · exact h1
  · intro e
    obtain ⟨cur, hg, _⟩ := own_g hv e.symm
    rw [hb] at hg
    cases hg
set_option maxHeartbeats 2000000 in
theorem fill_new (w : World) (B b : Nat) (room used : Int) (T : Nat → Th) (n : Nat) (hSl : SlF Yo w B b room used T n) (k s : Nat) (hk0 : k = 64 * n) (hs : 1 ≤ s ∧ s ≤ 128) (hBW : B ≤ w.heap.size) (hn1 : n + 1 ≤ 100000) :
    Calls Tryd.prog 57 #[.pointer (some ⟨b, 0, none⟩), .int .i64 k, .int .i64 s] w fun e w' => e = .returned (.tuple #[]) ∧ (∃ h, SlF Yo w' B b room used (upd T k (some (h, List.replicate s 0))) (n + 1)) ∧ FrF Yo B b w w' := by
  obtain ⟨hs1, hs2⟩ := hs
  have hT : T k = none := hSl.out k (by omega)
  have hk : k < 64 * (n + 1) := by omega
  obtain ⟨v, xs0, hb0, hv0, hx0⟩ := hSl.rows
  have c30 : w.cell? ⟨b, 3, none⟩ = some v := by rw [cell_of hb0]; rfl
  have hw : IntKind.i64.wrap ((n : Int) * 64) = (n : Int) * 64 := IntWalk.i64_in _ (by omega)
  have hne : ((k : Int) == (n : Int) * 64) = true := by simp; omega
  obtain ⟨p0, c0, rfl⟩ : ∃ p c, v = .slice p n c := by
    rcases hv0.2 with ⟨e, e2⟩ | ⟨g, cap, cur, e, _⟩
    · subst e2; exact ⟨_, _, e⟩
    · exact ⟨_, _, e⟩
  obtain ⟨i73, hi, hz0, hz1, hz2⟩ := info_parts info73
  replace hk0 : Hid _ := hk0
  have hzl : zrow.length = 65 := rfl
  have hzv : (zeroValue 124).run Tryd.prog w = .ok (.agg zrow.toArray) w := by kernel_rfl
  go_enter Tryd.func57, Tryd.ntmps57
  go_upto_region 2 with (first | (refine wpList_build73 rfl (.tmp 20) rfl rfl ?_) | (at_builtin; refine wpList_append_own_at _ rfl _ _ 98 rfl B 124 i73 (.agg zrow.toArray) 65 1544 Tryd.underlying98 hi hz0 hz1 hz2 rfl (by decide) (.slice p0 n c0) n xs0 rfl (hv0.alloc _) _ 1 1 zrow rfl rfl (news_new _ _ _ _ rfl) (by simp [zrow, Value.oneCell']) (by simp [maxLen]; omega) (by omega) (by simp; omega) ?_; go_loud (intro v' w2 hown hgrow hnil hloc; obtain ⟨g', cap', rfl⟩ : ∃ g cap, v' = .slice (some ⟨g, 0, none⟩) (n + 1) cap := (own_shape hown); have hSF := SlF.moreM hSl hb0 hv0 hx0 hown hgrow hloc hn1 hBW; obtain ⟨hS, hF⟩ := hSF; have hb2 := hSl.moreB hb0 hv0 hgrow; have c32 : w2.cell? ⟨b, 3, none⟩ = some (.slice p0 n c0) := (by rw [cell_of hb2]; rfl); have f32 := froz_of hb2 3; clear hgrow hown hnil hloc hb2)))
  have hBW2 : B ≤ (w2.setCell ⟨b, 3, none⟩ (.slice (some ⟨g', 0, none⟩) (n + 1) cap')).heap.size := Nat.le_trans hBW hF.bel.size
  generalize w2.setCell ⟨b, 3, none⟩ (.slice (some ⟨g', 0, none⟩) (n + 1) cap') = W at hS hF hBW2 ⊢
  clear c32 f32 c30 hb0 hv0 hx0 hSl hzv
  have hn := hS.nb
  obtain ⟨g, cap, xs, hb, hv, hx⟩ := hS.vrow (by omega)
  have c3 : W.cell? ⟨b, 3, none⟩ = some (.slice (some ⟨g, 0, none⟩) (n + 1) cap) := by rw [cell_of hb]; rfl
  have d1 : W.cell? ⟨g, k / 64 * 65 + 1 + k % 64, none⟩ = some (thV none) := by
    rw [hv.cellAt _ (by omega), hx.th (k / 64) (k % 64) (by omega) (by omega), Nat.div_add_mod, hT]
  have d2 : W.cell? ⟨g, k / 64 * 65, none⟩ = some (.int .i64 (cnt T (k / 64))) := by
    rw [hv.cellAt _ (by omega), hx.ct (k / 64) (by omega)]
  have f1 := fun j => hv.frozenAt j
  have hgs := heap_lt (own_g (g := g) hv rfl).choose_spec.1
  have hw2 : IntKind.i64.wrap ((cnt T (k / 64) : Int) + 1) = (cnt T (k / 64) : Int) + 1 := IntWalk.i64_in _ (by have := cnt_le T (k / 64); omega)
  have hM := hS.fillM hb hv hx rfl hk hT ⟨hs1, hs2⟩ hBW2
  rw [World.setCell_alloc_past _ _ _ _ hgs, World.setCell_alloc_past _ _ _ _ (by simpa using hgs)] at hM
  replace hM : Hid _ := hM
  clear hb hv hx
  have m5 := make5 s ⟨hs1, hs2⟩ W.drew
  go_upto_region 3 with fail
  go_region
  go_wp2
  all_goals go_returns
  exact ⟨rfl, ⟨_, hM.out.1.drew⟩, hF.trans hM.out.2.drew⟩
theorem fill_any (w : World) (B b : Nat) (room used : Int) (T : Nat → Th) (n : Nat) (h : SlF Yo w B b room used T n) (k s : Nat) (hk : k ≤ 64 * n) (hT : T k = none) (hs : 1 ≤ s ∧ s ≤ 128) (hBW : B ≤ w.heap.size) (hn1 : n + 1 ≤ 100000) :
    Calls Tryd.prog 57 #[.pointer (some ⟨b, 0, none⟩), .int .i64 k, .int .i64 s] w fun e w' => e = .returned (.tuple #[]) ∧ (∃ h n', n' ≤ n + 1 ∧ SlF Yo w' B b room used (upd T k (some (h, List.replicate s 0))) n') ∧ FrF Yo B b w w' := by
  by_cases e : k = 64 * n
  · exact (fill_new w B b room used T n h k s e hs hBW hn1).mono fun e w' ⟨a1, ⟨x, a2⟩, a3⟩ => ⟨a1, ⟨x, n + 1, Nat.le_refl _, a2⟩, a3⟩
  · exact (fill_in w B b room used T n h k s (by omega) hT hs hBW).mono fun e w' ⟨a1, ⟨x, a2⟩, a3⟩ => ⟨a1, ⟨x, n, by omega, a2⟩, a3⟩
end Go.Proofs.YtooblonafnlfcaaDoor
