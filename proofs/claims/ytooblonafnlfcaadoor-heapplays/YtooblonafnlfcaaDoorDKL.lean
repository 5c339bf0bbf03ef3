/- Towards HeapPlays: the document's Read and Write of a heap. Towards HeapPlays: the document's Free. -/
import Derived.Test.YtooblonafnlfcaaDoorDIJ
section
namespace Go.Proofs.YtooblonafnlfcaaDoor
open Go.ChangeShapes Go.WideShapes Go.ChangeAt Go.RowKit
set_option linter.unusedVariables false
set_option linter.unusedSimpArgs false
set_option maxRecDepth 20000
section
variable {w : World} {B b r t : Nat} {room u : Int} {M : MJ} {N : Int → Nat} {O : List Do} {X : List H.HKey} {vO vS vX vT : Value} {n : Nat}
theorem rreadc_no (h : Oh w B b r t room u M N O X vO vS vX vT n) {s : Int} {g : Nat} (hL : liveB M s g = false) (a m : Int) :
    Calls Tryd.prog 39 #[.pointer (some ⟨b, 0, none⟩), .agg #[.int .i64 s, .int .u64 g], .int .i64 a, .int .i64 m] w fun e w' => e = .returned (.tuple #[.string ⟨#[]⟩, .int .i64 130]) ∧ Below w.heap.size w w' := by
  have hb0 := (Below.refl _ w).alloc (Nat.le_refl _) (.cells #[.int .i64 s, .int .u64 g] 34)
  have k1 := oh_no (h.below hb0) hL
  go_enter Tryd.func39, Tryd.ntmps39
  go_wp2_with (go_at_call 18; refine k1.mono ?_; rintro e w1 ⟨rfl, hb⟩)
  all_goals go_returns
  all_goals exact ⟨rfl, hb0.trans (hb.mono (by simp))⟩
theorem rwritec_no (h : Oh w B b r t room u M N O X vO vS vX vT n) {s : Int} {g : Nat} (hL : liveB M s g = false) (a : Int) (x : ByteArray) :
    Calls Tryd.prog 40 #[.pointer (some ⟨b, 0, none⟩), .agg #[.int .i64 s, .int .u64 g], .int .i64 a, .string x] w fun e w' => e = .returned (.int .i64 130) ∧ Below w.heap.size w w' := by
  have hb0 := (Below.refl _ w).alloc (Nat.le_refl _) (.cells #[.int .i64 s, .int .u64 g] 34)
  have k1 := oh_no (h.below hb0) hL
  go_enter Tryd.func40, Tryd.ntmps40
  go_wp2_with (go_at_call 18; refine k1.mono ?_; rintro e w1 ⟨rfl, hb⟩)
  all_goals go_returns
  all_goals exact ⟨rfl, hb0.trans (hb.mono (by simp))⟩
theorem rreadc_at (h : Oh w B b r t room u M N O X vO vS vX vT n) {k : Nat} {o : Oj} (hM : M k = some o) (a m : Int) (ha : I64 a) (hm : I64 m) :
    Calls Tryd.prog 39 #[.pointer (some ⟨b, 0, none⟩), .agg #[.int .i64 k, .int .u64 o.g], .int .i64 a, .int .i64 m] w fun e w' => e = .returned (.tuple #[.string (inS o.bs a m), .int .i64 (inE o.bs a m)]) ∧ Below w.heap.size w w' := by
  obtain ⟨j, hj, hd⟩ := h.mo.yes hM
  have hb0 := (Below.refl _ w).alloc (Nat.le_refl _) (.cells #[.int .i64 k, .int .u64 o.g] 34)
  have h0 := h.below hb0
  have hz := heap_alloc_new w (.cells #[.int .i64 k, .int .u64 o.g] 34)
  have k1 := oh_yes h0 hj hd
  have dk : decide ((j : Int) < 0) = false := decide_eq_false (by omega)
  go_enter Tryd.func39, Tryd.ntmps39
  go_upto_region 3 with (go_at_call 18; refine k1.mono ?_; rintro e w1 ⟨rfl, hb⟩)
  have h2 := h0.below hb
  have hc := h2.cells
  have hz2 := (hb.block _ (heap_lt hz)).trans hz
  have hbw := hb0.trans (hb.mono hb0.size)
  have kR := fun p : BlBy w1 => rread_at p.wo B r room u (bM M) vS n (h2.below p.bl).sl k o.bs (by simp [bM, hM]) a m ha hm
  have c0 := fun p : BlBy w1 => (show p.wo.cell? ⟨b, 0, none⟩ = some (.pointer (some ⟨r, 0, none⟩)) by rw [cell_of ((p.bl.block _ (heap_lt hc)).trans hc)]; rfl)
  have z0 := fun p : BlBy w1 => (show p.wo.cell? ⟨w.heap.size, 0, none⟩ = some (.int .i64 k) by rw [cell_of ((p.bl.block _ (heap_lt hz2)).trans hz2)]; rfl)
  have hne : Nonempty (BlBy w1) := ⟨⟨w1, Below.refl _ w1⟩⟩
  refine wp_region_bl (by kernel_rfl) (by kernel_rfl) ?_
  repeat (first
    | go_big_quiet_skip
    | (go_big_quiet_want; go_big_quiet_op; first
      | go_big_quiet_on
      | (apply Exists.intro
         refine ⟨fun p => ?_, ?_⟩
         · (go_at_call 64; exact calls_bl0 (kR p))
         go_big_quiet_on)))
  refine wpQuiet_nil ?_
  intro wq hw'
  obtain ⟨⟨wq2, hq⟩, e⟩ := hw'
  simp only at e
  subst e
  go_wp2
  all_goals go_returns
  all_goals exact ⟨rfl, hbw.trans (hq.mono hbw.size)⟩
theorem rwritec_range (h : Oh w B b r t room u M N O X vO vS vX vT n) {k : Nat} {o : Oj} (hM : M k = some o) (a : Int) (x : ByteArray) (ha : I64 a) (hx : x.size ≤ maxLen) (hf : ¬ (0 ≤ a ∧ a + (x.size : Int) ≤ o.bs.length)) :
    Calls Tryd.prog 40 #[.pointer (some ⟨b, 0, none⟩), .agg #[.int .i64 k, .int .u64 o.g], .int .i64 a, .string x] w fun e w' => e = .returned (.int .i64 120) ∧ Below w.heap.size w w' := by
  obtain ⟨j, hj, hd⟩ := h.mo.yes hM
  have hb0 := (Below.refl _ w).alloc (Nat.le_refl _) (.cells #[.int .i64 k, .int .u64 o.g] 34)
  have h0 := h.below hb0
  have hz := heap_alloc_new w (.cells #[.int .i64 k, .int .u64 o.g] 34)
  have k1 := oh_yes h0 hj hd
  have dk : decide ((j : Int) < 0) = false := decide_eq_false (by omega)
  go_enter Tryd.func40, Tryd.ntmps40
  go_upto_region 3 with (go_at_call 18; refine k1.mono ?_; rintro e w1 ⟨rfl, hb⟩)
  have h2 := h0.below hb
  have hc := h2.cells
  have hz2 := (hb.block _ (heap_lt hz)).trans hz
  have hbw := hb0.trans (hb.mono hb0.size)
  have kR := fun p : BlBy w1 => rwrite_range p.wo B r room u (bM M) vS n (h2.below p.bl).sl k o.bs (by simp [bM, hM]) a x ha hx hf
  have c0 := fun p : BlBy w1 => (show p.wo.cell? ⟨b, 0, none⟩ = some (.pointer (some ⟨r, 0, none⟩)) by rw [cell_of ((p.bl.block _ (heap_lt hc)).trans hc)]; rfl)
  have z0 := fun p : BlBy w1 => (show p.wo.cell? ⟨w.heap.size, 0, none⟩ = some (.int .i64 k) by rw [cell_of ((p.bl.block _ (heap_lt hz2)).trans hz2)]; rfl)
  have hne : Nonempty (BlBy w1) := ⟨⟨w1, Below.refl _ w1⟩⟩
  refine wp_region_bl (by kernel_rfl) (by kernel_rfl) ?_
  repeat (first
    | go_big_quiet_skip
    | (go_big_quiet_want; go_big_quiet_op; first
      | go_big_quiet_on
      | (apply Exists.intro
         refine ⟨fun p => ?_, ?_⟩
         · (go_at_call 65; exact calls_bl (kR p))
         go_big_quiet_on)))
  refine wpQuiet_nil ?_
  intro wq hw'
  obtain ⟨⟨wq2, hq⟩, e⟩ := hw'
  simp only at e
  subst e
  go_wp2
  all_goals go_returns
  all_goals exact ⟨rfl, hbw.trans (hq.mono hbw.size)⟩
/-- The slab of the document's heap, with other bytes. -/
theorem Oh.fd {W : World} (h : Oh w B b r t room u M N O X vO vS vX vT n) {u' : Int} {F' : Nat → Option (List Int)} {vS' : Value} (hR : Rm W B r room F' u' vS' n) (hF : Fd B r vS w W) :
    W.heap[b]? = some (.cells #[.pointer (some ⟨r, 0, none⟩), .pointer (some ⟨t, 0, none⟩), vO] 50 (0, 0)) ∧ W.ownsRow B 45 4 vO O.length (oCells O) ∧ H.Bo W B t N (lOf M) X vX vT n := by
  obtain ⟨T, h1, h2, h3⟩ := h.tb.ex
  obtain ⟨S, s1, s2, s3, s4⟩ := h.sl.ex
  have hk : ∀ {i : Nat} {cs : Array Value} {t' : TypeId}, t' ≠ 80 → t' ≠ 92 → w.heap[i]? = some (.cells cs t' (0, 0)) → W.heap[i]? = some (.cells cs t' (0, 0)) := fun h80 h92 e => by
    rw [hF.keep _ (heap_lt e) (by rintro rfl; rw [s1.cells] at e; cases e; exact h80 rfl) (fun e2 => by obtain ⟨c, e3⟩ := row_cells s1.row e2.symm; rw [e] at e3; cases e3; exact h92 rfl)]
    exact e
  have hrt : ∀ {t' sz n' : Nat} {v : Value} {xs : List Value}, t' ≠ 80 → t' ≠ 92 → w.ownsRow B t' sz v n' xs → W.ownsRow B t' sz v n' xs := fun h80 h92 hr => row_kept hr (fun g' hg' => by
    obtain ⟨c, e⟩ := row_cells hr hg'
    rw [e]; exact hk h80 h92 e)
  exact ⟨hk (by decide) (by decide) h.cells, hrt (by decide) (by decide) h.row, ⟨⟨T, ⟨hk (by decide) (by decide) h1.cells, h1.rB, hrt (by decide) (by decide) h1.rowX, hrt (by decide) (by decide) h1.rowT, h1.apart, h1.lenX, h1.lenT⟩, h2, h3⟩, h.tb.mt⟩⟩
set_option maxHeartbeats 1000000 in
theorem rwritec_ok (h : Oh w B b r t room u M N O X vO vS vX vT n) {k : Nat} {o : Oj} (hM : M k = some o) (a : Nat) (x : ByteArray) (hf : a + x.size ≤ o.bs.length) :
    Calls Tryd.prog 40 #[.pointer (some ⟨b, 0, none⟩), .agg #[.int .i64 k, .int .u64 o.g], .int .i64 a, .string x] w fun e w' => e = .returned (.int .i64 0) ∧ Oh w' B b r t room u (updM M k (some { o with bs := wr o.bs a x })) N O X vO vS vX vT n ∧ Fo B b r t vO vS vX vT w w' := by
  obtain ⟨j, hj, hd⟩ := h.mo.yes hM
  have hBw := h.size
  have hb0 := (Below.refl _ w).alloc (Nat.le_refl _) (.cells #[.int .i64 k, .int .u64 o.g] 34)
  have h0 := h.below hb0
  have hz := heap_alloc_new w (.cells #[.int .i64 k, .int .u64 o.g] 34)
  have k1 := oh_yes h0 hj hd
  have dk : decide ((j : Int) < 0) = false := decide_eq_false (by omega)
  go_enter Tryd.func40, Tryd.ntmps40
  go_upto_region 3 with (go_at_call 18; refine k1.mono ?_; rintro e w1 ⟨rfl, hb⟩)
  have h2 := h0.below hb
  have hz2 := (hb.block _ (heap_lt hz)).trans hz
  have hbw := hb0.trans (hb.mono hb0.size)
  have kR := rwrite_ok w1.drew B r room u (bM M) vS n (h2.below (Below.refl _ _).drew).sl k o.bs (by simp [bM, hM]) a x hf
  have c0 : w1.cell? ⟨b, 0, none⟩ = some (.pointer (some ⟨r, 0, none⟩)) := by rw [cell_of h2.cells]; rfl
  have z0 : w1.cell? ⟨w.heap.size, 0, none⟩ = some (.int .i64 k) := by rw [cell_of hz2]; rfl
  go_region_with (go_at_call 65; go_loud (refine kR.mono ?_; rintro e w2 ⟨rfl, hS, hF⟩))
  go_wp2
  all_goals go_returns
  all_goals
    have h3 := h2.below (Below.refl _ w1).drew
    obtain ⟨a1, a2, a3⟩ := h3.fd hS hF
    refine ⟨rfl, ⟨a1, h3.bB, a2, h3.len, by rw [bM_upd]; exact hS, ?_, h3.mo.bytes hM rfl, h3.nn⟩, ⟨(hbw.mono hBw).drew.trans hF.bel, fun i hi _ e2 _ _ e5 _ _ => (hF.keep i (Nat.lt_of_lt_of_le hi hbw.size) e2 e5).trans (hbw.block i hi)⟩⟩
    rw [lOf_upd hM (o' := { o with bs := wr o.bs a x }) rfl]; exact a3
end
end Go.Proofs.YtooblonafnlfcaaDoor
end
section
namespace Go.Proofs.YtooblonafnlfcaaDoor
open Go.ChangeShapes Go.WideShapes Go.ChangeAt Go.RowKit
set_option linter.unusedVariables false
set_option linter.unusedSimpArgs false
set_option maxRecDepth 20000
theorem oCells_drop : ∀ (l : List Do) (a : Nat), oCells (l.drop a) = (oCells l).drop (a * 4)
  | [], a => by simp [oCells]
  | x :: l, 0 => by simp
  | ⟨s, g, k, c⟩ :: l, a + 1 => by
    rw [List.drop_succ_cons, oCells_drop l a, show (a + 1) * 4 = a * 4 + 1 + 1 + 1 + 1 by omega]
    simp [oCells]
theorem oCells_take : ∀ (l : List Do) (a : Nat), oCells (l.take a) = (oCells l).take (a * 4)
  | [], a => by simp [oCells]
  | x :: l, 0 => by simp [oCells]
  | ⟨s, g, k, c⟩ :: l, a + 1 => by
    rw [List.take_succ_cons, show (a + 1) * 4 = a * 4 + 1 + 1 + 1 + 1 by omega]
    simp [oCells, oCells_take l a]
theorem onews_row {w : World} {B g cap : Nat} {X : List Do} (h : w.ownsRow B 45 4 (.slice (some ⟨g, 0, none⟩) X.length cap) X.length (oCells X)) (a m : Nat) (ha : a + m ≤ X.length) :
    ∀ (j : Nat) (u : Value), (oCells ((X.drop a).take m))[j]? = some u → w.cell? ((⟨g, a * 4, none⟩ : Addr).add j) = some u := by
  intro j u hu
  have hj : j < m * 4 := by
    have := (List.getElem?_eq_some_iff.1 hu).1
    rw [oCells_len] at this
    simp at this
    omega
  rw [oCells_take, List.getElem?_take, if_pos hj, oCells_drop, List.getElem?_drop] at hu
  rw [show (⟨g, a * 4, none⟩ : Addr).add j = ⟨g, a * 4 + j, none⟩ by unfold Addr.add; split <;> simp_all]
  rw [h.cellAt _ (by omega)]
  exact hu
theorem ocutH (g n c k : Nat) (hk : k ≤ c) (W : World) : (Instr.slice 48 (.slice (some ⟨g, 0, none⟩) n c) none (some (.int .i64 k)) none).run Tryd.prog W = .ok (.slice (some ⟨g, 0, none⟩) k c) W := by
  have h5 : (sizeOf (Tryd.prog.elem 48)).run Tryd.prog W = .ok 4 W := by kernel_rfl
  rw [run_slice_h W 48 (some ⟨g, 0, none⟩) n c (by kernel_rfl) .i64 k (by omega) (by omega), h5]
  simp only [Result.andThen_ok, sliced, Int.toNat_natCast, Nat.sub_zero, Nat.zero_mul]
  congr 2
  split
  · rfl
  · simp [Addr.add]
theorem ocutL (g n c k : Nat) (hk : k ≤ n) (hn : n ≤ c) : ∃ ad : Addr, (k < n → ad = ⟨g, k * 4, none⟩) ∧ ∀ W, (Instr.slice 48 (.slice (some ⟨g, 0, none⟩) n c) (some (.int .i64 k)) none none).run Tryd.prog W = .ok (.slice (some ad) (n - k) (c - k)) W := by
  have h5 : ∀ W, (sizeOf (Tryd.prog.elem 48)).run Tryd.prog W = .ok 4 W := fun W => by kernel_rfl
  by_cases e : c = k
  · refine ⟨⟨g, 0, none⟩, by omega, fun W => ?_⟩
    rw [run_slice_l W 48 (some ⟨g, 0, none⟩) n c (by kernel_rfl) .i64 k (by omega) (by omega), h5]
    simp [sliced, Result.andThen, e]
  · refine ⟨(⟨g, 0, none⟩ : Addr).add (k * 4), fun _ => by unfold Addr.add; split <;> simp_all, fun W => ?_⟩
    rw [run_slice_l W 48 (some ⟨g, 0, none⟩) n c (by kernel_rfl) .i64 k (by omega) (by omega), h5]
    simp [sliced, Result.andThen, e]
theorem osome_shape {w : World} {B : Nat} {v : Value} {X : List Do} (h : w.ownsRow B 45 4 v X.length (oCells X)) (hX : 0 < X.length) : ∃ g cap, v = .slice (some ⟨g, 0, none⟩) X.length cap ∧ X.length ≤ cap := by
  rcases h.2 with ⟨e, h⟩ | ⟨g, cap, cur, e, _, _, h3, _⟩
  · omega
  · exact ⟨g, cap, e, h3⟩
section
variable {w : World} {B b r t : Nat} {room u : Int} {M : MJ} {N : Int → Nat} {O : List Do} {X : List H.HKey} {vO vS vX vT : Value} {n : Nat}
theorem rm_keep {w' : World} {F : Nat → Option (List Int)} (h : Rm w B r room F u vS n) (hk : ∀ {i : Nat} {cs : Array Value} {t' : TypeId}, (t' = 80 ∨ t' = 92) → w.heap[i]? = some (.cells cs t' (0, 0)) → w'.heap[i]? = some (.cells cs t' (0, 0))) : Rm w' B r room F u vS n := by
  obtain ⟨S, s1, s2, s3, s4⟩ := h.ex
  exact ⟨S, ⟨hk (.inl rfl) s1.cells, s1.rB, row_kept s1.row (fun g' hg' => by obtain ⟨c, e⟩ := row_cells s1.row hg'; rw [e]; exact hk (.inr rfl) e), s1.len, s1.bs⟩, s2, s3, s4⟩
theorem bo_keep {w' : World} {L : Int → Option Nat} (h : H.Bo w B t N L X vX vT n) (hk : ∀ {i : Nat} {cs : Array Value} {t' : TypeId}, (t' = 54 ∨ t' = 34) → w.heap[i]? = some (.cells cs t' (0, 0)) → w'.heap[i]? = some (.cells cs t' (0, 0))) : H.Bo w' B t N L X vX vT n := by
  obtain ⟨T, h1, h2, h3⟩ := h.ex
  have hr : ∀ {sz n' : Nat} {v : Value} {xs : List Value}, w.ownsRow B 34 sz v n' xs → w'.ownsRow B 34 sz v n' xs := fun hr => row_kept hr (fun g' hg' => by obtain ⟨c, e⟩ := row_cells hr hg'; rw [e]; exact hk (.inr rfl) e)
  exact ⟨⟨T, ⟨hk (.inl rfl) h1.cells, h1.rB, hr h1.rowX, hr h1.rowT, h1.apart, h1.lenX, h1.lenT⟩, h2, h3⟩, h.mt⟩
/-- What the slab's calls keep; what the table's keep. -/
theorem fd_keep {w' : World} {F : Nat → Option (List Int)} (h : Rm w B r room F u vS n) (hF : Fd B r vS w w') {i : Nat} {cs : Array Value} {t' : TypeId} (h80 : t' ≠ 80) (h92 : t' ≠ 92) (e : w.heap[i]? = some (.cells cs t' (0, 0))) : w'.heap[i]? = some (.cells cs t' (0, 0)) := by
  obtain ⟨S, s1, s2, s3, s4⟩ := h.ex
  rw [hF.keep _ (heap_lt e) (by rintro rfl; rw [s1.cells] at e; cases e; exact h80 rfl) (fun e2 => by obtain ⟨c, e3⟩ := row_cells s1.row e2.symm; rw [e] at e3; cases e3; exact h92 rfl)]
  exact e
theorem fx_keep {w' : World} {L : Int → Option Nat} (h : H.Bo w B t N L X vX vT n) (hF : H.Fx B t vX vT w w') {i : Nat} {cs : Array Value} {t' : TypeId} (h54 : t' ≠ 54) (e1 : some i ≠ vX.ownBlock) (e2 : some i ≠ vT.ownBlock) (e : w.heap[i]? = some (.cells cs t' (0, 0))) : w'.heap[i]? = some (.cells cs t' (0, 0)) := by
  obtain ⟨T, h1, h2, h3⟩ := h.ex
  rw [hF.keep _ (heap_lt e) (by rintro rfl; rw [h1.cells] at e; cases e; exact h54 rfl) e1 e2]
  exact e
theorem fx_keep2 {w' : World} {L : Int → Option Nat} (h : H.Bo w B t N L X vX vT n) (hF : H.Fx B t vX vT w w') {i : Nat} {cs : Array Value} {t' : TypeId} (h54 : t' ≠ 54) (h34 : t' ≠ 34) (e : w.heap[i]? = some (.cells cs t' (0, 0))) : w'.heap[i]? = some (.cells cs t' (0, 0)) := by
  obtain ⟨T, h1, h2, h3⟩ := h.ex
  exact fx_keep h hF h54 (fun q => by obtain ⟨c, e3⟩ := row_cells h1.rowX q.symm; rw [e] at e3; cases e3; exact h34 rfl) (fun q => by obtain ⟨c, e3⟩ := row_cells h1.rowT q.symm; rw [e] at e3; cases e3; exact h34 rfl) e
theorem row_keepB {w w' : World} {B t' sz n : Nat} {v : Value} {xs : List Value} (hr : w.ownsRow B t' sz v n xs) (hk : ∀ {i : Nat} {cs : Array Value}, w.heap[i]? = some (.cells cs t' (0, 0)) → w'.heap[i]? = some (.cells cs t' (0, 0))) : w'.ownsRow B t' sz v n xs :=
  row_kept hr (fun g' hg' => by obtain ⟨c, e⟩ := row_cells hr hg'; rw [e]; exact hk e)
theorem rfree_no (h : Oh w B b r t room u M N O X vO vS vX vT n) {s : Int} {g : Nat} (hL : liveB M s g = false) :
    Calls Tryd.prog 38 #[.pointer (some ⟨b, 0, none⟩), .agg #[.int .i64 s, .int .u64 g]] w fun e w' => e = .returned (.int .i64 130) ∧ Below w.heap.size w w' := by
  have hb0 := (Below.refl _ w).alloc (Nat.le_refl _) (.cells #[.int .i64 s, .int .u64 g] 34)
  have k1 := oh_no (h.below hb0) hL
  go_enter Tryd.func38, Tryd.ntmps38
  go_wp2_with (go_at_call 18; refine k1.mono ?_; rintro e w1 ⟨rfl, hb⟩)
  all_goals go_returns
  all_goals exact ⟨rfl, hb0.trans (hb.mono (by simp))⟩
theorem rfree_held (h : Oh w B b r t room u M N O X vO vS vX vT n) {k : Nat} {o : Oj} (hM : M k = some o) (hc : o.c ≠ 0) :
    Calls Tryd.prog 38 #[.pointer (some ⟨b, 0, none⟩), .agg #[.int .i64 k, .int .u64 o.g]] w fun e w' => e = .returned (.int .i64 3) ∧ Below w.heap.size w w' := by
  obtain ⟨j, hj, hd⟩ := h.mo.yes hM
  have hjl := (List.getElem?_eq_some_iff.1 hj).1
  have hb0 := (Below.refl _ w).alloc (Nat.le_refl _) (.cells #[.int .i64 k, .int .u64 o.g] 34)
  have h0 := h.below hb0
  have k1 := oh_yes h0 hj hd
  have hl := h.len
  have hn := h.nn
  have dk : decide ((j : Int) < 0) = false := decide_eq_false (by omega)
  have dc : (o.c == 0) = false := by simpa using hc
  go_enter Tryd.func38, Tryd.ntmps38
  go_upto_region 2 with (go_at_call 18; refine k1.mono ?_; rintro e w1 ⟨rfl, hb1⟩)
  have h1 := h0.below hb1
  have hbw : Below w.heap.size w w1 := hb0.trans (hb1.mono (by simp))
  obtain ⟨p, c, rfl⟩ : ∃ p cap, vO = .slice p O.length cap := H.own_shape h1.row
  have c2 : w1.cell? ⟨b, 2, none⟩ = some (.slice p O.length c) := by rw [cell_of h1.cells]; rfl
  obtain ⟨g, x, hx, hgl, hgo, hc0, hc1, hc2, hc3, hai⟩ := idx45 h1.row hjl (by omega)
  rw [hj] at hx
  obtain rfl := Option.some.inj hx
  simp only [doOf] at hc0 hc1 hc2 hc3
  clear k1 hd hx
  go_wp2
  all_goals go_returns
  all_goals exact ⟨rfl, hbw⟩
set_option maxHeartbeats 4000000 in
theorem rfree_ok (h : Oh w B b r t room u M N O X vO vS vX vT n) {k : Nat} {o : Oj} (hM : M k = some o) (hc : o.c = 0) :
    Calls Tryd.prog 38 #[.pointer (some ⟨b, 0, none⟩), .agg #[.int .i64 k, .int .u64 o.g]] w fun e w' => e = .returned (.int .i64 0) ∧ (∃ O' X' vO' vS' vX' vT', Oh w' B b r t room (u - clsM o.bs.length) (updM M k none) N O' X' vO' vS' vX' vT' n ∧ (∀ g, vX'.ownBlock = some g → vX.ownBlock = some g ∨ w.heap.size ≤ g) ∧ ∀ g, vT'.ownBlock = some g → vT.ownBlock = some g ∨ w.heap.size ≤ g) ∧ Fo B b r t vO vS vX vT w w' := by
  obtain ⟨j, hj, hd⟩ := h.mo.yes hM
  have hjl := (List.getElem?_eq_some_iff.1 hj).1
  have hBw := h.size
  have hb0 := (Below.refl _ w).alloc (Nat.le_refl _) (.cells #[.int .i64 k, .int .u64 o.g] 34)
  have h0 := h.below hb0
  have hz := heap_alloc_new w (.cells #[.int .i64 k, .int .u64 o.g] 34)
  have k1 := oh_yes h0 hj hd
  have hl := h.len
  have hn := h.nn
  have dk : decide ((j : Int) < 0) = false := decide_eq_false (by omega)
  have e9 : IntKind.i64.wrap ((j : Int) + 1) = (j : Int) + 1 := IntWalk.i64_in _ (by omega)
  obtain ⟨i45, hi45, hz0, hz1, hz2⟩ := H.info_parts info45
  go_enter Tryd.func38, Tryd.ntmps38
  go_upto_region 2 with (go_at_call 18; refine k1.mono ?_; rintro e w1 ⟨rfl, hb1⟩)
  have h1 := h0.below hb1
  have hbw : Below w.heap.size w w1 := hb0.trans (hb1.mono (by simp))
  have hy1 : w1.heap[w.heap.size]? = some (.cells #[.int .i64 k, .int .u64 o.g] 34 (0, 0)) := (hb1.block _ (by simp)).trans hz
  obtain ⟨gO, cO, rfl, hcO⟩ := osome_shape h1.row (by omega)
  have c2 : w1.cell? ⟨b, 2, none⟩ = some (.slice (some ⟨gO, 0, none⟩) O.length cO) := by rw [cell_of h1.cells]; rfl
  obtain ⟨g, x, hx, hgl, hgo, hc0, hc1, hc2, hc3, hai⟩ := idx45 h1.row hjl (by omega)
  rw [hj] at hx
  obtain rfl := Option.some.inj hx
  simp only [doOf] at hc0 hc1 hc2 hc3
  rw [hc] at hc3
  clear k1 hd hx
  have q1 := ocutH gO O.length cO j (by omega) w1
  have hn1 := onews_row h1.row 0 j (by omega)
  rw [List.drop_zero] at hn1
  have hBw1 := h1.size
  go_upto_region 8 with (at_builtin; refine wpList_append_own_at _ rfl _ _ 48 rfl w1.heap.size 45 i45 (.agg #[.int .i64 0, .int .u64 0, .int .i64 0, .int .i64 0]) 4 32 Tryd.underlying48 hi45 hz0 hz1 hz2 rfl (by decide) (.slice none 0 0) 0 [] rfl (World.ownsRow_nil _ _ _ _) ⟨gO, 0, none⟩ j cO (oCells (O.take j)) rfl (by rw [oCells_len]; simp; omega) hn1 (oCells_one _) (by simp [maxLen]; omega) (by omega) (Nat.le_refl _) ?_; go_loud (intro v2 w2 hown2 hgrow2 hnil2 hloc2; rw [Nat.zero_add, List.nil_append] at hown2; obtain ⟨p2, c2', rfl⟩ : ∃ p cap, v2 = .slice p j cap := H.own_shape hown2))
  have hk2 : ∀ i, i < w1.heap.size → w2.heap[i]? = w1.heap[i]? := fun i hi => hgrow2.block i hi (by simp [Value.ownBlock])
  have hbl := heap_lt h1.cells
  have c0' : w2.cell? ⟨b, 2, none⟩ = some (.slice (some ⟨gO, 0, none⟩) O.length cO) := by rw [cell_of ((hk2 b hbl).trans h1.cells)]; rfl
  obtain ⟨ad, had, q2⟩ := ocutL gO O.length cO (j + 1) (by omega) hcO
  have q2' := q2 w2
  rw [show ((j + 1 : Nat) : Int) = (j : Int) + 1 by simp] at q2'
  have hrO2 : w2.ownsRow B 45 4 (.slice (some ⟨gO, 0, none⟩) O.length cO) O.length (oCells O) := row_kept h1.row fun g' hg' => hk2 _ (h1.row.lt g' hg').2
  have hn2 : ∀ (i : Nat) (u : Value), (oCells (O.drop (j + 1)))[i]? = some u → w2.cell? (ad.add i) = some u := by
    by_cases e : j + 1 < O.length
    · have := onews_row hrO2 (j + 1) (O.length - (j + 1)) (by omega)
      rw [List.take_of_length_le (by simp)] at this
      rw [had e]
      exact this
    · intro i u hu
      rw [List.drop_of_length_le (by omega)] at hu
      simp [oCells] at hu
  have hw2 : w1.heap.size ≤ w2.heap.size := hgrow2.size
  clear c2 q1 q2 hn1 hc0 hc1 hc2 hc3 hai
  go_upto_region 9 with (at_builtin; refine wpList_append_own_at _ rfl _ _ 48 rfl w1.heap.size 45 i45 (.agg #[.int .i64 0, .int .u64 0, .int .i64 0, .int .i64 0]) 4 32 Tryd.underlying48 hi45 hz0 hz1 hz2 rfl (by decide) (.slice p2 j c2') j (oCells (O.take j)) rfl hown2 ad (O.length - (j + 1)) (cO - (j + 1)) (oCells (O.drop (j + 1))) rfl (by rw [oCells_len]; simp) hn2 (oCells_one _) (by simp [maxLen]; omega) (by omega) hw2 ?_; go_loud (intro v3 w3 hown3 hgrow3 hnil3 hloc3; obtain ⟨p3, c3, rfl⟩ : ∃ p cap, v3 = .slice p (j + (O.length - (j + 1))) cap := H.own_shape hown3; have hr3 : w3.heap[b]? = some (.cells #[.pointer (some ⟨r, 0, none⟩), .pointer (some ⟨t, 0, none⟩), .slice (some ⟨gO, 0, none⟩) O.length cO] 50 (0, 0)) := (by rw [hgrow3.block b (by omega) (fun e => by have := (hown2.lt b e.symm).1; omega)]; exact (hk2 b hbl).trans h1.cells); have c03 := cell_of hr3 2; have f03 := froz_of hr3 2; simp at c03))
  have hk3 : ∀ i, i < w1.heap.size → w3.heap[i]? = w1.heap[i]? := fun i hi => (hgrow3.block i (by omega) (fun e => by have := (hown2.lt i e.symm).1; omega)).trans (hk2 i hi)
  have hlen : (O.take j ++ O.drop (j + 1)).length = j + (O.length - (j + 1)) := by simp; omega
  have hw3 : w1.heap.size ≤ w3.heap.size := Nat.le_trans hw2 hgrow3.size
  have hbB := h.bB
  obtain ⟨W4, e4⟩ : ∃ W4, W4 = w3.setCell ⟨b, 2, none⟩ (.slice p3 (j + (O.length - (j + 1))) c3) := ⟨_, rfl⟩
  have hk4 : ∀ i, i ≠ b → i < w1.heap.size → W4.heap[i]? = w1.heap[i]? := fun i hi hl' => by
    rw [e4, Below.heap_setCell _ _ _ _ (by simpa using hi)]; exact hk3 i hl'
  have hcb4 : W4.heap[b]? = some (.cells #[.pointer (some ⟨r, 0, none⟩), .pointer (some ⟨t, 0, none⟩), .slice p3 (j + (O.length - (j + 1))) c3] 50 (0, 0)) := by
    have := heap_setCell_same w3 b 2 _ _ (.slice p3 (j + (O.length - (j + 1))) c3) hr3
    rw [e4]; simpa using this
  have hrow4 : W4.ownsRow B 45 4 (.slice p3 (j + (O.length - (j + 1))) c3) (O.take j ++ O.drop (j + 1)).length (oCells (O.take j ++ O.drop (j + 1))) := by
    rw [hlen, oCells_app, e4]
    exact H.row_other (H.row_base hown3 hBw1) (fun e => by have := (hown3.lt b e).1; omega)
  have hbel4 : Below B w1 W4 := by
    rw [e4]
    exact (show Below B w1 w3 from ⟨hgrow3.os.trans hgrow2.os, hgrow3.tape.trans hgrow2.tape, hgrow3.output.trans hgrow2.output, hw3, fun i hi => hk3 i (by omega)⟩).setCell hbB _
  have hkc : ∀ {i : Nat} {cs : Array Value} {t' : TypeId}, t' ≠ 50 → w1.heap[i]? = some (.cells cs t' (0, 0)) → W4.heap[i]? = some (.cells cs t' (0, 0)) := fun ht e => by
    rw [hk4 _ (by rintro rfl; rw [h1.cells] at e; cases e; exact ht rfl) (heap_lt e)]; exact e
  have hsl4 := rm_keep h1.sl (w' := W4) (fun ht e => hkc (by rcases ht with rfl | rfl <;> decide) e)
  have htb4 := bo_keep h1.tb (w' := W4) (fun ht e => hkc (by rcases ht with rfl | rfl <;> decide) e)
  have hy4 := hkc (by decide) hy1
  rw [← e4]
  clear c03 f03 q2' c0' hr3 e4 hn2 hown2 hown3 hgrow2 hgrow3 hloc2 hloc3 hnil2 hnil3 hk2 hk3 hrO2
  have hMo := h.mo.era hM hj
  have hlO : (O.take j ++ O.drop (j + 1)).length ≤ n := by rw [hlen]; omega
  generalize (Value.slice p3 (j + (O.length - (j + 1))) c3) = vO' at hcb4 hrow4 ⊢
  generalize O.take j ++ O.drop (j + 1) = O' at hrow4 hMo hlO
  have b1 : W4.cell? ⟨b, 1, none⟩ = some (.pointer (some ⟨t, 0, none⟩)) := by rw [cell_of hcb4]; rfl
  have z0 : W4.cell? ⟨w.heap.size, 0, none⟩ = some (.int .i64 k) := by rw [cell_of hy4]; rfl
  have z1 : W4.cell? ⟨w.heap.size, 1, none⟩ = some (.int .u64 o.g) := by rw [cell_of hy4]; rfl
  have hbd4 : Below W4.heap.size W4 W4.drew := (Below.refl _ _).drew
  have kD := H.rdrop_any W4.drew B t N (lOf M) X vX vT n (bo_keep htb4 (fun _ e => e)) k o.g
  go_region_with (go_at_call 62; go_loud (refine kD.mono ?_; rintro e w5 ⟨rfl, ⟨X', vX', vT', hB5, hf1, hf2⟩, hF5⟩))
  all_goals
    have htb4' : H.Bo W4.drew B t N (lOf M) X vX vT n := bo_keep htb4 (fun _ e => e)
    have hsl5 := rm_keep hsl4 (w' := w5) (fun {i} {cs} {t'} ht e => fx_keep2 htb4' hF5 (by rcases ht with rfl | rfl <;> decide) (by rcases ht with rfl | rfl <;> decide) (show W4.drew.heap[i]? = _ from e))
    have hcb5 := fx_keep2 htb4' hF5 (by decide) (by decide) (show W4.drew.heap[b]? = _ from hcb4)
    have hrow5 := row_keepB hrow4 (w' := w5) (fun {i} {cs} e => fx_keep2 htb4' hF5 (by decide) (by decide) (show W4.drew.heap[i]? = _ from e))
    have hzX : some w.heap.size ≠ vX.ownBlock ∧ some w.heap.size ≠ vT.ownBlock := by
      obtain ⟨T, t1, _, _⟩ := h.tb.ex
      exact ⟨fun e => by have := (t1.rowX.lt _ e.symm).2; omega, fun e => by have := (t1.rowT.lt _ e.symm).2; omega⟩
    have hy5 := fx_keep htb4' hF5 (by decide) hzX.1 hzX.2 (show W4.drew.heap[w.heap.size]? = _ from hy4)
    have b0 : w5.cell? ⟨b, 0, none⟩ = some (.pointer (some ⟨r, 0, none⟩)) := by rw [cell_of hcb5]; rfl
    have z5 : w5.cell? ⟨w.heap.size, 0, none⟩ = some (.int .i64 k) := by rw [cell_of hy5]; rfl
    clear b1 z0 z1 kD
    have hsl5' : Rm w5.drew B r room (bM M) u vS n := rm_keep hsl5 (fun _ e => e)
    have kG := rgive_ok w5.drew B r room u (bM M) vS n hsl5' k o.bs (by simp [bM, hM])
    go_upto_region 10 with fail
    go_region_with (go_at_call 63; go_loud (refine kG.mono ?_; rintro e w6 ⟨rfl, ⟨vS', hS6⟩, hF6⟩))
    all_goals
      have hcb6 := fd_keep hsl5' hF6 (by decide) (by decide) (show w5.drew.heap[b]? = _ from hcb5)
      have hrow6 := row_keepB hrow5 (w' := w6) (fun {i} {cs} e => fd_keep hsl5' hF6 (by decide) (by decide) (show w5.drew.heap[i]? = _ from e))
      have htb6 := bo_keep hB5 (w' := w6) (fun {i} {cs} {t'} ht e => fd_keep hsl5' hF6 (by rcases ht with rfl | rfl <;> decide) (by rcases ht with rfl | rfl <;> decide) (show w5.drew.heap[i]? = _ from e))
      have hs45 := hbel4.size
      have hs5 : W4.heap.size ≤ w5.heap.size := hF5.bel.size
      have hs1 := hbw.size
      go_wp2
      all_goals go_returns
      all_goals
        refine ⟨rfl, ⟨O', X', vO', vS', vX', vT', ⟨hcb6, hbB, hrow6, hlO, ?_, ?_, hMo, hn⟩, fun g' e => ?_, fun g' e => ?_⟩, ⟨?_, fun i hi a1 a2 a3 a4 a5 a6 a7 => ?_⟩⟩
        · rw [bM_upd]; exact hS6
        · rw [lOf_del]
          rw [H.drL_yes (by rw [lOf_nat, hM]; rfl)] at htb6
          exact htb6
        · rcases hf1 g' e with q | q
          · exact .inl q
          · have q' : W4.heap.size ≤ g' := q
            exact .inr (by omega)
        · rcases hf2 g' e with q | q
          · exact .inl q
          · have q' : W4.heap.size ≤ g' := q
            exact .inr (by omega)
        · exact ((hbw.mono hBw).trans hbel4).drew.trans (hF5.bel.drew.trans hF6.bel)
        · have e6 := hF6.keep i (show i < w5.heap.size by omega) a2 a5
          have e5 := hF5.keep i (show i < W4.heap.size by omega) a3 a6 a7
          exact e6.trans (Eq.trans e5 ((hk4 i a1 (by omega)).trans (hbw.block i hi)))
end
end Go.Proofs.YtooblonafnlfcaaDoor
end
