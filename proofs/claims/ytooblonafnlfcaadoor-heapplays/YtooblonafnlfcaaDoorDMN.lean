/- Towards HeapPlays: the document's Make. Towards HeapPlays: the document's calls as the program's are told; both heaps. -/
import Derived.Test.YtooblonafnlfcaaDoorDKL
import Derived.Deep.AppendLies
import Derived.Deep.RegionHeld3
import Derived.Deep.RegionLaw
section
namespace Go.Proofs.YtooblonafnlfcaaDoor
open Go.ChangeShapes Go.WideShapes Go.ChangeAt Go.RowKit
set_option linter.unusedVariables false
set_option linter.unusedSimpArgs false
set_option maxRecDepth 20000
theorem nodup_len : ∀ (l m : List Int), l.Nodup → (∀ x ∈ l, x ∈ m) → l.length ≤ m.length
  | [], m, _, _ => by simp
  | x :: l, m, hn, hs => by
    have h1 := List.nodup_cons.1 hn
    have hx := hs x (by simp)
    have := nodup_len l (m.erase x) h1.2 (fun y hy => (List.mem_erase_of_ne (by rintro rfl; exact h1.1 hy)).2 (hs y (by simp [hy])))
    rw [List.length_erase_of_mem hx] at this
    have := List.length_pos_of_mem hx
    simp only [List.length_cons]; omega
section
variable {w : World} {B b r t : Nat} {room u : Int} {M : MJ} {N : Int → Nat} {O : List Do} {X : List H.HKey} {vO vS vX vT : Value} {n : Nat}
theorem Oh.lenX (h : Oh w B b r t room u M N O X vO vS vX vT n) : X.length ≤ n := by
  have h1 := nodup_len (X.map (·.1)) (O.map (·.s)) ?_ fun x hx => ?_
  · simp only [List.length_map] at h1
    exact Nat.le_trans h1 h.len
  · refine List.Pairwise.imp ?_ (List.pairwise_map.2 h.tb.mt.up)
    intro a c hac e
    omega
  · obtain ⟨⟨s, g⟩, hy, rfl⟩ := List.mem_map.1 hx
    have hL := (h.tb.mt.mem s g).1 hy
    have hLb : (lOf M s == some g) = true := by simp [hL]
    obtain ⟨k, o, rfl, hM, rfl⟩ := live_at hLb
    exact List.mem_map.2 ⟨_, h.mo.all k o hM, rfl⟩
theorem rmakec_bad (h : Oh w B b r t room u M N O X vO vS vX vT n) (kd m : Int) (hc : clsM m = 0) :
    Calls Tryd.prog 14 #[.pointer (some ⟨b, 0, none⟩), .int .i64 kd, .int .i64 m] w fun e w' => e = .returned (.tuple #[.agg #[.int .i64 0, .int .u64 0], .int .i64 2]) ∧ Below w.heap.size w w' := by
  have hb0 := (Below.refl _ w).alloc (Nat.le_refl _) (.cells #[.int .i64 0, .int .u64 0] 34)
  have h0 := h.below hb0
  have c0 : (w.alloc (.cells #[.int .i64 0, .int .u64 0] 34)).cell? ⟨b, 0, none⟩ = some (.pointer (some ⟨r, 0, none⟩)) := by rw [cell_of h0.cells]; rfl
  have k1 := dtake_bad (w.alloc (.cells #[.int .i64 0, .int .u64 0] 34)) B r m hc
  have hy := heap_alloc_new w (.cells #[.int .i64 0, .int .u64 0] 34)
  have f0 := froz_of hy 0
  have f1 := froz_of hy 1
  have g0 := cell_of hy 0
  have g1 := cell_of hy 1
  simp at g0 g1
  obtain ⟨e0, e1, e2, e3⟩ := H.put2 hy (.int .i64 0) (.int .u64 0)
  have hb2 : Below w.heap.size w (((w.alloc (.cells #[.int .i64 0, .int .u64 0] 34)).setCell ⟨w.heap.size, 0, none⟩ (.int .i64 0)).setCell ⟨w.heap.size, 1, none⟩ (.int .u64 0)) := (hb0.setCell (Nat.le_refl _) _).setCell (Nat.le_refl _) _
  go_enter Tryd.func14, Tryd.ntmps14
  go_wp2_with (go_at_call 34; refine k1.mono ?_; rintro e w' ⟨rfl, hw⟩; rw [hw]; clear hw)
  refine bodyPost_ret (by simp [results, Tryd.results14, go_sem, e0, e1, e2, e3]; try rfl) rfl ?_
  first | exact ⟨rfl, hb0⟩ | exact ⟨rfl, hb2⟩
theorem rmakec_full (h : Oh w B b r t room u M N O X vO vS vX vT n) (kd m : Int) (hc : clsM m ≠ 0) (hf : room < u + clsM m) :
    Calls Tryd.prog 14 #[.pointer (some ⟨b, 0, none⟩), .int .i64 kd, .int .i64 m] w fun e w' => e = .returned (.tuple #[.agg #[.int .i64 0, .int .u64 0], .int .i64 6]) ∧ Below w.heap.size w w' := by
  have hb0 := (Below.refl _ w).alloc (Nat.le_refl _) (.cells #[.int .i64 0, .int .u64 0] 34)
  have h0 := h.below hb0
  have c0 : (w.alloc (.cells #[.int .i64 0, .int .u64 0] 34)).cell? ⟨b, 0, none⟩ = some (.pointer (some ⟨r, 0, none⟩)) := by rw [cell_of h0.cells]; rfl
  have k1 := rtake_full (w.alloc (.cells #[.int .i64 0, .int .u64 0] 34)) B r room u (bM M) vS n h0.sl m hc hf
  have hy := heap_alloc_new w (.cells #[.int .i64 0, .int .u64 0] 34)
  go_enter Tryd.func14, Tryd.ntmps14
  go_upto_region 2 with (go_at_call 34; go_loud (refine k1.mono ?_; rintro e w1 ⟨rfl, hb1⟩))
  have hbw : Below w.heap.size w w1 := hb0.trans (hb1.mono (by simp))
  have hy1 := (hb1.block _ (heap_lt hy)).trans hy
  have f0 := froz_of hy1 0
  have f1 := froz_of hy1 1
  have g0 := cell_of hy1 0
  have g1 := cell_of hy1 1
  simp at g0 g1
  obtain ⟨e0, e1, e2, e3⟩ := H.put2 hy1 (.int .i64 0) (.int .u64 0)
  have hb2 : Below w.heap.size w ((w1.setCell ⟨w.heap.size, 0, none⟩ (.int .i64 0)).setCell ⟨w.heap.size, 1, none⟩ (.int .u64 0)) := (hbw.setCell (Nat.le_refl _) _).setCell (Nat.le_refl _) _
  clear k1 c0
  go_wp2
  refine bodyPost_ret (by simp [results, Tryd.results14, go_sem, e0, e1, e2, e3]; try rfl) rfl ?_
  exact ⟨rfl, hb2⟩
set_option maxHeartbeats 4000000 in
theorem rmakec_ok (h : Oh w B b r t room u M N O X vO vS vX vT n) (kd : Int) (sz : Nat) (hs : 1 ≤ sz ∧ sz ≤ 128) (hf : u + clsM sz ≤ room) (hn : n + 1 ≤ 900) (hN : ∀ k, N k ≤ 1000000) :
    Calls Tryd.prog 14 #[.pointer (some ⟨b, 0, none⟩), .int .i64 kd, .int .i64 sz] w fun e w' => ∃ k : Nat, e = .returned (.tuple #[.agg #[.int .i64 k, .int .u64 ((N k : Int) + 1)], .int .i64 0]) ∧ M k = none ∧ (∀ j, j < k → (M j).isSome = true) ∧
      (∃ O' X' vO' vS' vX' vT', Oh w' B b r t room (u + clsM sz) (updM M k (some ⟨N k + 1, 1, kd, List.replicate sz 0⟩)) (H.updN N k (N k + 1)) O' X' vO' vS' vX' vT' (n + 1) ∧ (∀ g, vX'.ownBlock = some g → vX.ownBlock = some g ∨ w.heap.size ≤ g) ∧ ∀ g, vT'.ownBlock = some g → vT.ownBlock = some g ∨ w.heap.size ≤ g) ∧ Fo B b r t vO vS vX vT w w' := by
  have hBw := h.size
  have hbB := h.bB
  have hl := h.len
  have hlX := h.lenX
  have hb0 := (Below.refl _ w).alloc (Nat.le_refl _) (.cells #[.int .i64 0, .int .u64 0] 34)
  have h0 := h.below hb0
  have hy := heap_alloc_new w (.cells #[.int .i64 0, .int .u64 0] 34)
  have c0 : (w.alloc (.cells #[.int .i64 0, .int .u64 0] 34)).cell? ⟨b, 0, none⟩ = some (.pointer (some ⟨r, 0, none⟩)) := by rw [cell_of h0.cells]; rfl
  have k1 := rtake_ok (w.alloc (.cells #[.int .i64 0, .int .u64 0] 34)) B r room u (bM M) vS n h0.sl sz hs hf (by omega)
  obtain ⟨i45, hi45, hz0, hz1, hz2⟩ := H.info_parts info45
  have hzX : (∀ g, vX.ownBlock = some g → g < w.heap.size) ∧ ∀ g, vT.ownBlock = some g → g < w.heap.size := by
    obtain ⟨T, t1, _, _⟩ := h.tb.ex
    exact ⟨fun g e => (t1.rowX.lt g e).2, fun g e => (t1.rowT.lt g e).2⟩
  have hs0 : (w.alloc (.cells #[.int .i64 0, .int .u64 0] 34)).heap.size = w.heap.size + 1 := by simp
  go_enter Tryd.func14, Tryd.ntmps14
  go_upto_region 2 with (go_at_call 34; go_loud (refine k1.mono ?_; rintro e w1 ⟨k, rfl, hk1, hk2, ⟨vS', hS1⟩, hF1⟩))
  have hMk : M k = none := by simpa [bM] using hk1
  have hMj : ∀ j, j < k → (M j).isSome = true := fun j hj => by have := hk2 j hj; simpa [bM] using this
  have hcb1 := fd_keep h0.sl hF1 (by decide) (by decide) h0.cells
  have hrow1 := row_keepB h0.row (w' := w1) (fun {i} {cs} e => fd_keep h0.sl hF1 (by decide) (by decide) e)
  have htb1 := bo_keep h0.tb (w' := w1) (fun {i} {cs} {t'} ht e => fd_keep h0.sl hF1 (by rcases ht with rfl | rfl <;> decide) (by rcases ht with rfl | rfl <;> decide) e)
  have hy1 := fd_keep h0.sl hF1 (by decide) (by decide) hy
  have hs1 : w.heap.size + 1 ≤ w1.heap.size := by have := hF1.bel.size; omega
  have hkw1 : ∀ i, i < w.heap.size → i ≠ r → some i ≠ vS.ownBlock → w1.heap[i]? = w.heap[i]? := fun i hi a1 a2 => (hF1.keep i (by omega) a1 a2).trans (hb0.block i hi)
  have hbw1 : Below B w w1 := (hb0.mono hBw).trans hF1.bel
  have b1 : w1.cell? ⟨b, 1, none⟩ = some (.pointer (some ⟨t, 0, none⟩)) := by rw [cell_of hcb1]; rfl
  have k2 := H.rmake_any w1 B t N (lOf M) X vX vT n htb1 k (by omega) (by omega) (hN k)
  obtain ⟨gn, hgn⟩ : ∃ gn : Int, (N k : Int) + 1 = gn := ⟨_, rfl⟩
  have e0 : H.mkE (lOf M) k = 0 := by simp [H.mkE, lOf_nat, hMk]
  simp only [H.mkS, H.mkG, H.mkN, H.mkL, e0, if_true] at k2
  rw [show ((N k + 1 : Nat) : Int) = gn by rw [← hgn]; simp] at k2
  replace hgn : Hid _ := hgn
  clear k1 c0 hk1 hk2
  go_upto_region 5 with (go_at_call 35; go_loud (refine k2.mono ?_; rintro e w2 ⟨rfl, ⟨X', vX', vT', hB2, hf1, hf2⟩, hF2⟩))
  have hcb2 := fx_keep2 htb1 hF2 (by decide) (by decide) hcb1
  have hrow2 := row_keepB hrow1 (w' := w2) (fun {i} {cs} e => fx_keep2 htb1 hF2 (by decide) (by decide) e)
  have hsl2 := rm_keep hS1 (w' := w2) (fun {i} {cs} {t'} ht e => fx_keep2 htb1 hF2 (by rcases ht with rfl | rfl <;> decide) (by rcases ht with rfl | rfl <;> decide) e)
  have hy2 := fx_keep htb1 hF2 (by decide) (fun e => by have := hzX.1 _ e.symm; omega) (fun e => by have := hzX.2 _ e.symm; omega) hy1
  have hs2 : w1.heap.size ≤ w2.heap.size := hF2.bel.size
  have hkw2 : ∀ i, i < w.heap.size → i ≠ r → i ≠ t → some i ≠ vS.ownBlock → some i ≠ vX.ownBlock → some i ≠ vT.ownBlock → w2.heap[i]? = w.heap[i]? := fun i hi a1 a2 a3 a4 a5 => (hF2.keep i (by omega) a2 a4 a5).trans (hkw1 i hi a1 a3)
  have hbw2 : Below B w w2 := hbw1.trans hF2.bel
  have hz := heap_alloc_new w2 (.cells #[.int .i64 k, .int .u64 gn] 34)
  have hbz := (Below.refl _ w2).alloc (Nat.le_refl _) (.cells #[.int .i64 k, .int .u64 gn] 34)
  clear k2 b1
  have hcbW := (hbz.block _ (heap_lt hcb2)).trans hcb2
  have hyW := (hbz.block _ (heap_lt hy2)).trans hy2
  have hrowW : (w2.alloc (.cells #[.int .i64 k, .int .u64 gn] 34)).ownsRow B 45 4 vO O.length (oCells O) := row_keepB hrow2 (fun {i} {cs} e => (hbz.block i (heap_lt e)).trans e)
  have hbW : Below B w (w2.alloc (.cells #[.int .i64 k, .int .u64 gn] 34)) := hbw2.alloc (Nat.le_trans hBw hbw2.size) _
  generalize w2.alloc (.cells #[.int .i64 k, .int .u64 gn] 34) = W at hz hbz hcbW hyW hrowW hbW ⊢
  go_upto_region 7 with fail
  have hsW := hbz.size
  generalize hzq : w2.heap.size = z at hz ⊢
  obtain ⟨p, c, rfl⟩ : ∃ p cap, vO = .slice p O.length cap := H.own_shape h.row
  have b2 : W.cell? ⟨b, 2, none⟩ = some (.slice p O.length c) := by rw [cell_of hcbW]; rfl
  have x0 := cell_of hz 0
  have x1 := cell_of hz 1
  simp at x0 x1
  replace hzq : Hid _ := hzq
  have hBW : B ≤ W.heap.size := Nat.le_trans hBw hbW.size
  have hbO : some b ≠ (Value.slice p O.length c).ownBlock := fun e => by obtain ⟨c', e'⟩ := row_cells hrowW e.symm; rw [hcbW] at e'; cases e'
  have hzO : some z ≠ (Value.slice p O.length c).ownBlock := fun e => by obtain ⟨c', e'⟩ := row_cells hrowW e.symm; rw [hz] at e'; cases e'
  have hyO : some w.heap.size ≠ (Value.slice p O.length c).ownBlock := fun e => by obtain ⟨c', e'⟩ := row_cells hrowW e.symm; rw [hyW] at e'; cases e'
  have hbWl := heap_lt hcbW
  have hya := ((Below.refl _ W).alloc (Nat.le_refl _) (.cells #[.int .i64 k, .int .u64 gn, .int .i64 kd, .int .i64 1] 45)).drew
  have hzl := heap_lt hz
  have ed2 := (hya.cell (p := ⟨b, 2, none⟩) hbWl).trans b2
  have edx0 := (hya.cell (p := ⟨z, 0, none⟩) hzl).trans x0
  have edx1 := (hya.cell (p := ⟨z, 1, none⟩) hzl).trans x1
  go_region_law ((refine step_append_lies _ (by rfl) _ _ _ (by rfl) B 45 i45 _ 4 32 Tryd.underlying48 hi45 hz0 hz1 hz2 rfl (by omega) (.slice p O.length c) O.length (oCells O) (by rfl) ((hrowW.alloc _).drew) ⟨W.heap.size, 0, none⟩ 1 1 [.int .i64 k, .int .u64 gn, .int .i64 kd, .int .i64 1] (by rfl) (by rfl) (World.news_of_block (cs := #[.int .i64 k, .int .u64 gn, .int .i64 kd, .int .i64 1]) (t := 45) (fr := (0, 0)) (heap_alloc_new W _)) (by simp [Value.oneCell']) (by omega) (by simp [maxLen]; omega) (by omega) (by simp; omega) (W.heap.size + 1) (by simp) ?_; intro g3 c3 w3 hown3 hgrow3 hat3 hlt3; have hr3 : w3.heap[b]? = some (.cells #[.pointer (some ⟨r, 0, none⟩), .pointer (some ⟨t, 0, none⟩), .slice p O.length c] 50 (0, 0)) := (by rw [hgrow3.block b (by simp; omega) hbO]; exact (Below.heap_alloc _ _ _ hbWl).trans hcbW); have c03 : w3.cell? ⟨b, 2, none⟩ = some (.slice p O.length c) := (by rw [cell_of hr3]; rfl); have f03 := froz_of hr3 2; have hr4 : w3.heap[z]? = some (.cells #[.int .i64 k, .int .u64 gn] 34 (0, 0)) := (by rw [hgrow3.block z (by simp; omega) hzO]; exact (Below.heap_alloc _ _ _ hzl).trans hz); have cx0 : w3.cell? ⟨z, 0, none⟩ = some (.int .i64 k) := (by rw [cell_of hr4]; rfl); have cx1 : w3.cell? ⟨z, 1, none⟩ = some (.int .u64 gn) := (by rw [cell_of hr4]; rfl)))
  all_goals
    obtain ⟨oN, hoN⟩ : ∃ oN : Oj, oN = ⟨N k + 1, 1, kd, List.replicate sz 0⟩ := ⟨_, rfl⟩
    obtain ⟨W4, e4⟩ : ∃ W4, W4 = w3.setCell ⟨b, 2, none⟩ (.slice (some ⟨g3, 0, none⟩) (O.length + 1) c3) := ⟨_, rfl⟩
    have hkw3 : ∀ i, i < W.heap.size → some i ≠ (Value.slice p O.length c).ownBlock → w3.heap[i]? = W.heap[i]? := fun i hi hne => (hgrow3.block i (by simp; omega) hne).trans (Below.heap_alloc _ _ _ hi)
    have hk4 : ∀ i, i < W.heap.size → i ≠ b → some i ≠ (Value.slice p O.length c).ownBlock → W4.heap[i]? = W.heap[i]? := fun i hi a1 a2 => by
      rw [e4, Below.heap_setCell _ _ _ _ (by simpa using a1)]; exact hkw3 i hi a2
    have hcb4 : W4.heap[b]? = some (.cells #[.pointer (some ⟨r, 0, none⟩), .pointer (some ⟨t, 0, none⟩), .slice (some ⟨g3, 0, none⟩) (O.length + 1) c3] 50 (0, 0)) := by
      have := heap_setCell_same w3 b 2 _ _ (.slice (some ⟨g3, 0, none⟩) (O.length + 1) c3) hr3
      rw [e4]; simpa using this
    have hoc : oCells [doOf k oN] = [.int .i64 k, .int .u64 gn, .int .i64 kd, .int .i64 1] := by
      rw [hoN]
      simp only [oCells, doOf]
      rw [show ((N k + 1 : Nat) : Int) = gn by rw [← hgn.out]; simp]
    have hgb : (Value.slice (some ⟨g3, 0, none⟩) (O.length + 1) c3).ownBlock ≠ some b := fun e => by obtain ⟨c', e'⟩ := row_cells hown3 e; rw [hr3] at e'; cases e'
    have hrow4 : W4.ownsRow B 45 4 (.slice (some ⟨g3, 0, none⟩) (O.length + 1) c3) (O ++ [doOf k oN]).length (oCells (O ++ [doOf k oN])) := by
      rw [e4, oCells_app, hoc, List.length_append]
      exact H.row_other hown3 hgb
    have hbel4 : Below B w W4 := by
      rw [e4]
      exact (hbW.trans ((((Below.refl B W).alloc hBW _).drew).grown hgrow3 (by simp; omega) (fun k e => (hrowW.lt k e).1))).setCell hbB _
    rw [← e4]
    have hkt4 : ∀ {i : Nat} {cs : Array Value} {t' : TypeId}, t' ≠ 50 → t' ≠ 45 → W.heap[i]? = some (.cells cs t' (0, 0)) → W4.heap[i]? = some (.cells cs t' (0, 0)) := fun a1 a2 e => by
      rw [hk4 _ (heap_lt e) (by rintro rfl; rw [hcbW] at e; cases e; exact a1 rfl) (fun q => by obtain ⟨c', e'⟩ := row_cells hrowW q.symm; rw [e] at e'; cases e'; exact a2 rfl)]
      exact e
    have hsl4 := rm_keep (rm_keep hsl2 (w' := W) (fun _ e => (hbz.block _ (heap_lt e)).trans e)) (w' := W4) (fun ht e => hkt4 (by rcases ht with rfl | rfl <;> decide) (by rcases ht with rfl | rfl <;> decide) e)
    have htb4 := bo_keep (bo_keep hB2 (w' := W) (fun _ e => (hbz.block _ (heap_lt e)).trans e)) (w' := W4) (fun ht e => hkt4 (by rcases ht with rfl | rfl <;> decide) (by rcases ht with rfl | rfl <;> decide) e)
    have hy4 := hkt4 (by decide) (by decide) hyW
    have hz4 := hkt4 (by decide) (by decide) hz
    clear c03 f03 cx0 cx1 hr3 hr4 hown3 hgrow3 hat3 hlt3 e4 hkw3 b2 x0 x1 ed2 edx0 edx1 hya
    have x0 := cell_of hz4 0
    have x1 := cell_of hz4 1
    have f0 := froz_of hy4 0
    have f1 := froz_of hy4 1
    have g0 := cell_of hy4 0
    have g1 := cell_of hy4 1
    simp at x0 x1 g0 g1
    obtain ⟨e0', e1, e2, e3⟩ := H.put2 hy4 (.int .i64 k) (.int .u64 gn)
    have hk6 : ∀ i, i ≠ w.heap.size → ((W4.setCell ⟨w.heap.size, 0, none⟩ (.int .i64 k)).setCell ⟨w.heap.size, 1, none⟩ (.int .u64 gn)).heap[i]? = W4.heap[i]? := fun i hi => by rw [Below.heap_setCell _ _ _ _ hi, Below.heap_setCell _ _ _ _ hi]
    have hout : Hid ((∃ O' X' vO' vS' vX' vT', Oh ((W4.setCell ⟨w.heap.size, 0, none⟩ (.int .i64 k)).setCell ⟨w.heap.size, 1, none⟩ (.int .u64 gn)) B b r t room (u + clsM sz) (updM M k (some ⟨N k + 1, 1, kd, List.replicate sz 0⟩)) (H.updN N k (N k + 1)) O' X' vO' vS' vX' vT' (n + 1) ∧ (∀ g, vX'.ownBlock = some g → vX.ownBlock = some g ∨ w.heap.size ≤ g) ∧ ∀ g, vT'.ownBlock = some g → vT.ownBlock = some g ∨ w.heap.size ≤ g) ∧ Fo B b r t (.slice p O.length c) vS vX vT w ((W4.setCell ⟨w.heap.size, 0, none⟩ (.int .i64 k)).setCell ⟨w.heap.size, 1, none⟩ (.int .u64 gn))) := by
      have hbl := heap_lt h.cells
      obtain ⟨T, t1, t2, t3⟩ := htb4.ex
      have hneX : ∀ g, vX'.ownBlock = some g → g ≠ w.heap.size := fun g e => by
        rcases hf1 g e with q | q
        · have := hzX.1 g q; omega
        · omega
      have hneT : ∀ g, vT'.ownBlock = some g → g ≠ w.heap.size := fun g e => by
        rcases hf2 g e with q | q
        · have := hzX.2 g q; omega
        · omega
      rw [← hoN]
      refine ⟨⟨O ++ [doOf k oN], X', _, vS', vX', vT', ⟨(hk6 b (by omega)).trans hcb4, hbB, row_kept hrow4 (fun g' hg' => hk6 g' (by rintro rfl; obtain ⟨c', e'⟩ := row_cells hrow4 hg'; rw [hy4] at e'; cases e')), by simp; omega, ?_, ⟨⟨T, ⟨(hk6 t (by rintro rfl; have := t1.cells; rw [hy4] at this; cases this)).trans t1.cells, t1.rB, row_kept t1.rowX (fun g e => hk6 g (hneX g e)), row_kept t1.rowT (fun g e => hk6 g (hneT g e)), t1.apart, t1.lenX, t1.lenT⟩, t2, t3⟩, ?_⟩, h.mo.app hMk oN, hn⟩, fun g e => ?_, fun g e => ?_⟩, ⟨(hbel4.setCell hBw _).setCell hBw _, fun i hi a1 a2 a3 a4 a5 a6 a7 => ?_⟩⟩
      · rw [bM_upd, hoN]
        exact rm_keep hsl4 (fun ht e => by rw [hk6 _ (by rintro rfl; rw [hy4] at e; cases e; simp at ht)]; exact e)
      · rw [lOf_new, hoN]; exact htb4.mt
      · rcases hf1 g e with q | q
        · exact .inl q
        · exact .inr (by omega)
      · rcases hf2 g e with q | q
        · exact .inl q
        · exact .inr (by omega)
      · exact (hk6 i (by omega)).trans ((hk4 i (by omega) a1 a4).trans ((hbz.block i (by omega)).trans (hkw2 i hi a2 a3 a5 a6 a7)))
    go_wp2
    refine bodyPost_ret (by simp [results, Tryd.results14, go_sem, e0', e1, e2, e3]; try rfl) rfl ?_
    exact ⟨k, by rw [hgn.out], hMk, hMj, hout.out⟩
end
end Go.Proofs.YtooblonafnlfcaaDoor
end
section
namespace Go.Proofs.YtooblonafnlfcaaDoor
open Go.ChangeShapes Go.WideShapes Go.ChangeAt Go.RowKit
set_option linter.unusedVariables false
set_option linter.unusedSimpArgs false
set_option maxRecDepth 20000
/-- Handles and steps that lie apart are as they were; the table's rows are the old ones, or new. -/
structure Kd (vX vT : Value) (w w' : World) (vX' vT' : Value) : Prop where
  keep : ∀ (i : Nat) (cs : Array Value) (t' : TypeId), (t' = 36 ∨ t' = 34) → some i ≠ vX.ownBlock → some i ≠ vT.ownBlock → w.heap[i]? = some (.cells cs t' (0, 0)) → w'.heap[i]? = some (.cells cs t' (0, 0))
  size : w.heap.size ≤ w'.heap.size
  fX : ∀ g, vX'.ownBlock = some g → vX.ownBlock = some g ∨ w.heap.size ≤ g
  fT : ∀ g, vT'.ownBlock = some g → vT.ownBlock = some g ∨ w.heap.size ≤ g
theorem Kd.bel {vX vT : Value} {w w' : World} (h : Below w.heap.size w w') : Kd vX vT w w' vX vT :=
  ⟨fun i cs t' _ _ _ e => (h.block i (heap_lt e)).trans e, h.size, fun _ e => .inl e, fun _ e => .inl e⟩
theorem Kd.trans {vX vT vX1 vT1 vX2 vT2 : Value} {w w1 w2 : World} (h : Kd vX vT w w1 vX1 vT1) (k : Kd vX1 vT1 w1 w2 vX2 vT2) : Kd vX vT w w2 vX2 vT2 := by
  refine ⟨fun i cs t' ht a1 a2 e => k.keep i cs t' ht (fun q => ?_) (fun q => ?_) (h.keep i cs t' ht a1 a2 e), Nat.le_trans h.size k.size, fun g e => ?_, fun g e => ?_⟩
  · rcases h.fX i q.symm with q | q
    · exact a1 q.symm
    · have := heap_lt e; omega
  · rcases h.fT i q.symm with q | q
    · exact a2 q.symm
    · have := heap_lt e; omega
  · have := h.size
    rcases k.fX g e with q | q
    · exact h.fX g q
    · exact .inr (by omega)
  · have := h.size
    rcases k.fT g e with q | q
    · exact h.fT g q
    · exact .inr (by omega)
theorem Kd.fq {vX vT : Value} {Yo : Nat → Prop} {w w' : World} {C : Nat} {q : HQ} {room' used : Int} {N' : Int → Nat} {M' : MJ} {ns : Nat} {A K : Nat → Nat} {n' : Nat} (hp : Hp Yo w C q room' used N' M' ns A K n') (hF : Fq Yo C q w w') : Kd vX vT w w' vX vT := by
  refine ⟨fun i cs t' ht _ _ ho => ?_, hF.bel.size, fun _ e => .inl e, fun _ e => .inl e⟩
  obtain ⟨cS, eS⟩ := hp.sl.cellsS
  obtain ⟨F, hF1, _⟩ := hp.tb.im1
  refine hF.keep i _ ?_ ?_ ?_ ?_ ho ?_ ?_ ?_
  · rintro rfl; rw [eS] at ho; cases ho; simp at ht
  · rintro rfl; exact hF1.notc ho
  · rintro rfl; exact hp.tb.im2.notc ho
  · rintro rfl; exact hp.ow.im.notc ho
  · intro cs z e; cases e; simp at ht
  · intro cs z e; cases e; simp at ht
  · intro cs z e; cases e; simp at ht
section
variable {w : World} {B b r t : Nat} {room u : Int} {M : MJ} {N : Int → Nat} {O : List Do} {X : List H.HKey} {vO vS vX vT : Value} {n : Nat}
theorem Kd.fo {w' : World} {vX' vT' : Value} (h : Oh w B b r t room u M N O X vO vS vX vT n) (hF : Fo B b r t vO vS vX vT w w') (fX : ∀ g, vX'.ownBlock = some g → vX.ownBlock = some g ∨ w.heap.size ≤ g) (fT : ∀ g, vT'.ownBlock = some g → vT.ownBlock = some g ∨ w.heap.size ≤ g) : Kd vX vT w w' vX' vT' := by
  refine ⟨fun i cs t' ht a1 a2 ho => ?_, hF.bel.size, fX, fT⟩
  obtain ⟨T, h1, h2, h3⟩ := h.tb.ex
  obtain ⟨S, s1, s2, s3, s4⟩ := h.sl.ex
  have hr : ∀ {t2 sz n' : Nat} {v : Value} {xs : List Value}, (t2 ≠ 36 ∧ t2 ≠ 34) → w.ownsRow B t2 sz v n' xs → some i ≠ v.ownBlock := fun ht2 hr e => by
    obtain ⟨c, e2⟩ := row_cells hr e.symm
    rw [ho] at e2
    cases e2
    rcases ht with rfl | rfl
    · exact ht2.1 rfl
    · exact ht2.2 rfl
  rw [hF.keep i (heap_lt ho) ?_ ?_ ?_ (hr (by decide) h.row) (hr (by decide) s1.row) a1 a2]
  · exact ho
  · rintro rfl; rw [h.cells] at ho; cases ho; simp at ht
  · rintro rfl; rw [s1.cells] at ho; cases ho; simp at ht
  · rintro rfl; rw [h1.cells] at ho; cases ho; simp at ht
/-- What a call of the document's heap leaves, told in one. -/
def Od (w w' : World) (B b r t : Nat) (room u' : Int) (M' : MJ) (N' : Int → Nat) (vX vT : Value) (n' : Nat) : Prop :=
  (∃ O' X' vO' vS' vX' vT', Oh w' B b r t room u' M' N' O' X' vO' vS' vX' vT' n' ∧ Kd vX vT w w' vX' vT') ∧ Below B w w' ∧
    ∀ (C : Nat) (q : HQ) (room' used : Int) (N1 : Int → Nat) (M1 : MJ) (ns : Nat) (A K : Nat → Nat) (n1 : Nat), Hp (fun _ => False) w C q room' used N1 M1 ns A K n1 → Hp (fun _ => False) w' C q room' used N1 M1 ns A K n1
theorem Od.same {w' : World} (h : Oh w B b r t room u M N O X vO vS vX vT n) (hb : Below w.heap.size w w') : Od w w' B b r t room u M N vX vT n :=
  ⟨⟨O, X, vO, vS, vX, vT, h.below hb, Kd.bel hb⟩, hb.mono h.size, fun _ _ _ _ _ _ _ _ _ _ hp => hp.kept hb⟩
theorem Od.of {w' : World} {u' : Int} {M' : MJ} {N' : Int → Nat} {O' : List Do} {X' : List H.HKey} {vO' vS' vX' vT' : Value} {n' : Nat} (h : Oh w B b r t room u M N O X vO vS vX vT n) (hF : Fo B b r t vO vS vX vT w w') (h' : Oh w' B b r t room u' M' N' O' X' vO' vS' vX' vT' n') (fX : ∀ g, vX'.ownBlock = some g → vX.ownBlock = some g ∨ w.heap.size ≤ g) (fT : ∀ g, vT'.ownBlock = some g → vT.ownBlock = some g ∨ w.heap.size ≤ g) : Od w w' B b r t room u' M' N' vX vT n' :=
  ⟨⟨O', X', vO', vS', vX', vT', h', Kd.fo h hF fX fT⟩, hF.bel, fun _ _ _ _ _ _ _ _ _ _ hp => Hp.fo h hF hp⟩
theorem oho_any (h : Oh w B b r t room u M N O X vO vS vX vT n) (hp : ∀ k o, M k = some o → 0 ≤ o.c ∧ o.c ≤ 90000) (s : Int) (g : Nat) :
    Calls Tryd.prog 36 #[.pointer (some ⟨b, 0, none⟩), .agg #[.int .i64 s, .int .u64 g]] w fun e w' => e = .returned (.tuple #[.int .i64 (hoV M s g), .int .i64 (hoE M s g)]) ∧ Od w w' B b r t room u (onM M s g hoF) N vX vT n := by
  cases hL : liveB M s g with
  | false =>
    rw [hoV, hoE, on_dead hL, hL]
    exact (rhold_no h hL).mono fun e w' ⟨a, b⟩ => ⟨a, Od.same h b⟩
  | true =>
    obtain ⟨k, o, rfl, hM, rfl⟩ := live_at hL
    have := hp k o hM
    rw [hoV, hoE, on_live hM, hL, ct_live hM]
    exact (rhold_ok h hM (by omega)).mono fun e w' ⟨a, ⟨O', h'⟩, hF⟩ => ⟨a, Od.of h hF h' (fun _ e => .inl e) (fun _ e => .inl e)⟩
theorem odr_any (h : Oh w B b r t room u M N O X vO vS vX vT n) (hp : ∀ k o, M k = some o → 0 ≤ o.c ∧ o.c ≤ 90000) (s : Int) (g : Nat) :
    Calls Tryd.prog 37 #[.pointer (some ⟨b, 0, none⟩), .agg #[.int .i64 s, .int .u64 g]] w fun e w' => e = .returned (.tuple #[.int .i64 (drV M s g), .int .i64 (drE' M s g)]) ∧ Od w w' B b r t room u (onM M s g drF) N vX vT n := by
  cases hL : liveB M s g with
  | false =>
    rw [drV, drE', on_dead hL, hL]
    exact (rdropc_no h hL).mono fun e w' ⟨a, b⟩ => ⟨a, Od.same h b⟩
  | true =>
    obtain ⟨k, o, rfl, hM, rfl⟩ := live_at hL
    have := hp k o hM
    rw [drV, drE', on_live hM, hL, ct_live hM, drF]
    by_cases hz : o.c = 0
    · simp only [if_pos hz, if_true, upd_id hM]
      exact (rdropc_zero h hM hz).mono fun e w' ⟨a, b⟩ => ⟨a, Od.same h b⟩
    · simp only [if_neg hz, if_true]
      exact (rdropc_ok h hM (by omega)).mono fun e w' ⟨a, ⟨O', h'⟩, hF⟩ => ⟨a, Od.of h hF h' (fun _ e => .inl e) (fun _ e => .inl e)⟩
theorem ofr_any (h : Oh w B b r t room u M N O X vO vS vX vT n) (s : Int) (g : Nat) :
    Calls Tryd.prog 38 #[.pointer (some ⟨b, 0, none⟩), .agg #[.int .i64 s, .int .u64 g]] w fun e w' => e = .returned (.int .i64 (frE M s g)) ∧ Od w w' B b r t room (frU M s g u) (onM M s g frF) N vX vT n := by
  cases hL : liveB M s g with
  | false =>
    rw [frE, frU, on_dead hL, hL]
    exact (rfree_no h hL).mono fun e w' ⟨a, b⟩ => ⟨a, Od.same h b⟩
  | true =>
    obtain ⟨k, o, rfl, hM, rfl⟩ := live_at hL
    rw [frE, frU, on_live hM, hL, ct_live hM, bs_live hM, frF]
    by_cases hz : o.c = 0
    · simp only [if_pos hz, if_true]
      exact (rfree_ok h hM hz).mono fun e w' ⟨a, ⟨O', X', vO', vS', vX', vT', h', fX, fT⟩, hF⟩ => ⟨a, Od.of h hF h' fX fT⟩
    · simp only [if_neg hz, if_true, upd_id hM]
      exact (rfree_held h hM hz).mono fun e w' ⟨a, b⟩ => ⟨a, Od.same h b⟩
theorem ord_any (h : Oh w B b r t room u M N O X vO vS vX vT n) (s : Int) (g : Nat) (a m : Int) (ha : I64 a) (hm : I64 m) :
    Calls Tryd.prog 39 #[.pointer (some ⟨b, 0, none⟩), .agg #[.int .i64 s, .int .u64 g], .int .i64 a, .int .i64 m] w fun e w' => e = .returned (.tuple #[.string (rdS M s g a m), .int .i64 (rdE M s g a m)]) ∧ Below w.heap.size w w' := by
  cases hL : liveB M s g with
  | false =>
    rw [rdS, rdE, hL]
    exact rreadc_no h hL a m
  | true =>
    obtain ⟨k, o, rfl, hM, rfl⟩ := live_at hL
    rw [rdS, rdE, hL, getM_nat, hM]
    exact rreadc_at h hM a m ha hm
theorem owt_any (h : Oh w B b r t room u M N O X vO vS vX vT n) (s : Int) (g : Nat) (a : Int) (x : ByteArray) (ha : I64 a) (hx : x.size ≤ maxLen) :
    Calls Tryd.prog 40 #[.pointer (some ⟨b, 0, none⟩), .agg #[.int .i64 s, .int .u64 g], .int .i64 a, .string x] w fun e w' => e = .returned (.int .i64 (wtE M s g a x)) ∧ Od w w' B b r t room u (onM M s g (wtF a x)) N vX vT n := by
  cases hL : liveB M s g with
  | false =>
    rw [wtE, on_dead hL, hL]
    exact (rwritec_no h hL a x).mono fun e w' ⟨a, b⟩ => ⟨a, Od.same h b⟩
  | true =>
    obtain ⟨k, o, rfl, hM, rfl⟩ := live_at hL
    rw [wtE, on_live hM, hL, bs_live hM, wtF]
    by_cases hz : 0 ≤ a ∧ a + x.size ≤ o.bs.length
    · simp only [if_pos hz, if_true]
      obtain ⟨i, rfl⟩ : ∃ i : Nat, a = i := ⟨a.toNat, by omega⟩
      exact (rwritec_ok h hM i x (by omega)).mono fun e w' ⟨a, h', hF⟩ => ⟨a, Od.of h hF h' (fun _ e => .inl e) (fun _ e => .inl e)⟩
    · simp only [if_neg hz, if_true, upd_id hM]
      exact (rwritec_range h hM a x ha hx hz).mono fun e w' ⟨a, b⟩ => ⟨a, Od.same h b⟩
end
end Go.Proofs.YtooblonafnlfcaaDoor
end
