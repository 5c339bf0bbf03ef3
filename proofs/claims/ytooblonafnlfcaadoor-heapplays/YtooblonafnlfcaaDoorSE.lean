/- Towards the statements of package slab (layer 12): fill, empty. -/
import Derived.Test.YtooblonafnlfcaaDoorSD
import Derived.Lib.SmallJoins
namespace Go.Proofs.YtooblonafnlfcaaDoor
open Go.ChangeShapes Go.WideShapes Go.ChangeAt Go.RowKit
set_option linter.unusedVariables false
set_option linter.unusedSimpArgs false
set_option maxRecDepth 20000
variable {Yo : Nat → Prop}
theorem SlF.vrow {w : World} {B b : Nat} {room used : Int} {T : Nat → Th} {n : Nat} (h : SlF Yo w B b room used T n) (hn : 0 < n) :
    ∃ g cap xs, w.heap[b]? = some (.cells #[.bool true, .int .i64 room, .int .i64 used, .slice (some ⟨g, 0, none⟩) n cap] 100 (0, 0)) ∧ w.ownsRow B 124 65 (.slice (some ⟨g, 0, none⟩) n cap) n xs ∧ RowsOk xs T n := by
  obtain ⟨v, xs, hb, hv, hx⟩ := h.rows
  rcases hv.2 with ⟨e, e2⟩ | ⟨g, cap, cur, e, _⟩
  · omega
  · subst e
    exact ⟨g, cap, xs, hb, hv, hx⟩
theorem empty_any (w : World) (B b : Nat) (room used : Int) (T : Nat → Th) (n : Nat) (h : SlF Yo w B b room used T n) (k : Nat) (x : Nat × List Int) (hT : T k = some x) :
    Calls Tryd.prog 70 #[.pointer (some ⟨b, 0, none⟩), .int .i64 k] w fun e w' => e = .returned (.tuple #[]) ∧ SlF Yo w' B b room used (upd T k none) n ∧ FrF Yo B b w w' := by
  have hk : k < 64 * n := by
    by_cases e : k < 64 * n
    · exact e
    · rw [h.out k (by omega)] at hT; cases hT
  have hn := h.nb
  obtain ⟨g, cap, xs, hb, hv, hx⟩ := h.vrow (by omega)
  have c3 : w.cell? ⟨b, 3, none⟩ = some (.slice (some ⟨g, 0, none⟩) n cap) := by rw [cell_of hb]; rfl
  have d1 : w.cell? ⟨g, k / 64 * 65 + 1 + k % 64, none⟩ = some (thV (some x)) := by
    rw [hv.cellAt _ (by omega), hx.th (k / 64) (k % 64) (by omega) (by omega), Nat.div_add_mod, hT]
  have d2 : w.cell? ⟨g, k / 64 * 65, none⟩ = some (.int .i64 (cnt T (k / 64))) := by
    rw [hv.cellAt _ (by omega), hx.ct (k / 64) (by omega)]
  have f1 := fun j => hv.frozenAt j
  have hw : IntKind.i64.wrap ((cnt T (k / 64) : Int) - 1) = (cnt T (k / 64) : Int) - 1 := IntWalk.i64_in _ (by have := cnt_le T (k / 64); omega)
  have hM := h.emptyM hb hv hx rfl hk hT
  replace hM : Hid _ := hM
  clear hb hv hx
  go_enter Tryd.func70, Tryd.ntmps70
  go_wp2
  all_goals go_returns
  exact ⟨rfl, hM.out⟩
theorem made_eq (s : Nat) : madeCells #[.int .u8 0] s = byV (List.replicate s 0) := by
  apply Array.toList_inj.1
  rw [toList_madeCells_one]
  simp [byV]
theorem info5 : (Tryd.prog.info? 5).map (fun i => (i.zero, i.size, i.bytes)) = some (some (.int .u8 0), 1, 1) := by kernel_rfl
theorem make5 (s : Nat) (hs : 1 ≤ s ∧ s ≤ 128) (W : World) : (Instr.makeSlice 65 (.int .i64 s) (.int .i64 s)).run Tryd.prog W = .ok (.slice (some ⟨W.heap.size, 0, none⟩) s s) (W.alloc (.cells (byV (List.replicate s 0)) 5)) := by
  obtain ⟨i5, hi, hz0, hz1, hz2⟩ := info_parts info5
  have hmk := run_makeSlice (P := Tryd.prog) W 65 5 i5 _ Tryd.underlying65 hi hz0 .i64 .i64 s s (by omega) (Int.le_refl _) (by rw [hz1]; omega) (by rw [hz2]; omega) (by omega)
  rw [hz1] at hmk
  simp [Value.cells] at hmk
  rw [← made_eq]
  exact hmk
theorem SlF.drew {w : World} {B b : Nat} {room used : Int} {T : Nat → Th} {n : Nat} (h : SlF Yo w B b room used T n) : SlF Yo w.drew B b room used T n :=
  ⟨h.bB, h.nb, h.rm, h.us, h.rows, h.out, h.th, h.apart, h.off⟩
set_option maxHeartbeats 1000000 in
theorem fill_in (w : World) (B b : Nat) (room used : Int) (T : Nat → Th) (n : Nat) (h : SlF Yo w B b room used T n) (k s : Nat) (hk : k < 64 * n) (hT : T k = none) (hs : 1 ≤ s ∧ s ≤ 128) (hBW : B ≤ w.heap.size) :
    Calls Tryd.prog 57 #[.pointer (some ⟨b, 0, none⟩), .int .i64 k, .int .i64 s] w fun e w' => e = .returned (.tuple #[]) ∧ (∃ h, SlF Yo w' B b room used (upd T k (some (h, List.replicate s 0))) n) ∧ FrF Yo B b w w' := by
  obtain ⟨hs1, hs2⟩ := hs
  have hBW2 := hBW
  have hn := h.nb
  obtain ⟨g, cap, xs, hb, hv, hx⟩ := h.vrow (by omega)
  have c3 : w.cell? ⟨b, 3, none⟩ = some (.slice (some ⟨g, 0, none⟩) n cap) := by rw [cell_of hb]; rfl
  have d1 : w.cell? ⟨g, k / 64 * 65 + 1 + k % 64, none⟩ = some (thV none) := by
    rw [hv.cellAt _ (by omega), hx.th (k / 64) (k % 64) (by omega) (by omega), Nat.div_add_mod, hT]
  have d2 : w.cell? ⟨g, k / 64 * 65, none⟩ = some (.int .i64 (cnt T (k / 64))) := by
    rw [hv.cellAt _ (by omega), hx.ct (k / 64) (by omega)]
  have f1 := fun j => hv.frozenAt j
  have hgs := heap_lt (own_g (g := g) hv rfl).choose_spec.1
  have hw2 : IntKind.i64.wrap ((cnt T (k / 64) : Int) + 1) = (cnt T (k / 64) : Int) + 1 := IntWalk.i64_in _ (by have := cnt_le T (k / 64); omega)
  have hM := h.fillM hb hv hx rfl hk hT ⟨hs1, hs2⟩ hBW2
  rw [World.setCell_alloc_past _ _ _ _ hgs, World.setCell_alloc_past _ _ _ _ (by simpa using hgs)] at hM
  replace hM : Hid _ := hM
  clear hb hv hx
  have m5 := make5 s ⟨hs1, hs2⟩ w.drew
  have hw : IntKind.i64.wrap ((n : Int) * 64) = (n : Int) * 64 := IntWalk.i64_in _ (by omega)
  have hne : ((k : Int) == (n : Int) * 64) = false := by simp; omega
  go_enter Tryd.func57, Tryd.ntmps57
  go_upto_region 3 with fail
  go_region
  go_wp2
  all_goals go_returns
  exact ⟨rfl, ⟨_, hM.out.1.drew⟩, hM.out.2.drew⟩
theorem info73 : (Tryd.prog.info? 124).map (fun i => (i.zero, i.size, i.bytes)) = some (some (.agg zrow.toArray), 65, 1544) := by kernel_rfl
theorem news_new (w : World) (cs : List Value) (t : TypeId) (g : Nat) (hg : g = w.heap.size) : ∀ (j : Nat) (u : Value), cs[j]? = some u → (w.alloc (.cells cs.toArray t)).cell? ((⟨g, 0, none⟩ : Addr).add j) = some u := by
  subst hg
  intro j u hu
  rw [show (⟨w.heap.size, 0, none⟩ : Addr).add j = ⟨w.heap.size, j, none⟩ by unfold Addr.add; split <;> simp_all]
  rw [cell_of_row _ _ _ cs.toArray t (0, 0) (heap_alloc_new w _)]
  simpa using hu
end Go.Proofs.YtooblonafnlfcaaDoor
