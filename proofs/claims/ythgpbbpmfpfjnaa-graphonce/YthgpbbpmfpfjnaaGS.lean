/- Towards the statements of package graph (layer 17): what no graph answers; what is asked, of a graph as it is told. -/
import Derived.Test.YthgpbbpmfpfjnaaGQ
namespace Go.Proofs.Ythgpbbpmfpfjnaa
open Go.ChangeShapes Go.WideShapes Go.ChangeAt Go.RowKit
set_option linter.unusedVariables false
set_option linter.unusedSimpArgs false
set_option maxRecDepth 20000
def nilR (v : Value) (b : Bool) : Value := .tuple #[v, .bool b]
abbrev zH : Value := .agg #[.int .i64 0, .int .u64 0]
abbrev zP : Value := .agg #[.int .i64 0, .int .i64 0, .int .i64 0]
theorem one_any (n : Nat) (hn : n ≤ 255) (w : World) : Calls Try.prog 18 #[.int .u8 n] w fun e w' => e = .returned (.agg #[.int .i64 n, .int .u64 1]) ∧ Below w.heap.size w w' := by
  have y1 := heap_alloc_new w (.cells #[.int .i64 0, .int .u64 0] 31)
  have hb1 := (Below.refl _ w).alloc (Nat.le_refl _) (.cells #[.int .i64 0, .int .u64 0] 31)
  have e9 : IntKind.i64.wrap (n : Int) = n := IntWalk.i64_in _ (by omega)
  go_enter Try.func18, Try.ntmps18
  go_upto_region 1 with fail
  generalize w.alloc (.cells #[.int .i64 0, .int .u64 0] 31) = W at y1 hb1 ⊢
  obtain ⟨s0, s1, s2, s3⟩ := put2 y1 (.int .i64 (n : Int)) (.int .u64 1)
  have f0 := froz_of y1 0
  have f1 := froz_of y1 1
  have z0 := cell_of y1 0
  have z1 := cell_of y1 1
  simp at z0 z1
  go_wp2
  refine bodyPost_ret (by simp [results, Try.results18, go_sem, s0, s1, s2, s3]; try rfl) rfl ?_
  exact ⟨rfl, (hb1.setCell (Nat.le_refl _) _).setCell (Nat.le_refl _) _⟩
theorem enter_nil (p : PKey) (f : FKey) (u v : Value) (w : World) : Calls Try.prog 21 #[.pointer none, pK p, F.hK f, u, v] w fun e w' => e = .returned (.int .i64 1) ∧ Below w.heap.size w w' := by
  have hb1 := ((Below.refl _ w).alloc (Nat.le_refl _) (.cells #[.int .i64 p.1, .int .i64 p.2.1, .int .i64 p.2.2] 28)).alloc (by simp) (.cells #[.int .i64 f.1.1, .int .u64 f.1.2, .int .i64 f.2] 60)
  have k1 := fun W => gmade_nil W
  unfold pK P.hK F.hK
  go_enter Try.func21, Try.ntmps21
  go_wp2_with (go_at_call 28; refine (k1 _).mono ?_; rintro e w' ⟨rfl, hw⟩; rw [hw]; clear hw)
  all_goals go_returns
  all_goals exact ⟨rfl, hb1⟩
theorem gpush_nil (p : PKey) (f : FKey) (q : Bool) (w : World) : Calls Try.prog 9 #[.pointer none, pK p, hK2 f.1, .int .i64 f.2, .bool q] w fun e w' => e = .returned (.int .i64 1) ∧ Below w.heap.size w w' := by
  have hb1 := (((Below.refl _ w).alloc (Nat.le_refl _) (.cells #[.int .i64 p.1, .int .i64 p.2.1, .int .i64 p.2.2] 28)).alloc (by simp) (.cells #[.int .i64 f.1.1, .int .u64 f.1.2] 31)).alloc (by simp; omega) (.cells #[.bool q] 4)
  have k1 := fun u v W => enter_nil p f u v W
  unfold pK P.hK F.hK at k1
  unfold pK P.hK hK2
  go_enter Try.func9, Try.ntmps9
  go_wp2_with (go_at_call 21; refine (k1 _ _ _).mono ?_; rintro e w' ⟨rfl, hb2⟩)
  all_goals go_returns
  all_goals exact ⟨rfl, hb1.trans (hb2.mono hb1.size)⟩
theorem gins_nil (p : PKey) (i : Int) (f : FKey) (w : World) : Calls Try.prog 10 #[.pointer none, pK p, .int .i64 i, hK2 f.1, .int .i64 f.2] w fun e w' => e = .returned (.int .i64 1) ∧ Below w.heap.size w w' := by
  have hb1 := (((Below.refl _ w).alloc (Nat.le_refl _) (.cells #[.int .i64 p.1, .int .i64 p.2.1, .int .i64 p.2.2] 28)).alloc (by simp) (.cells #[.int .i64 i] 3)).alloc (by simp; omega) (.cells #[.int .i64 f.1.1, .int .u64 f.1.2] 31)
  have k1 := fun u v W => enter_nil p f u v W
  unfold pK P.hK F.hK at k1
  unfold pK P.hK hK2
  go_enter Try.func10, Try.ntmps10
  go_wp2_with (go_at_call 21; refine (k1 _ _ _).mono ?_; rintro e w' ⟨rfl, hb2⟩)
  all_goals go_returns
  all_goals exact ⟨rfl, hb1.trans (hb2.mono hb1.size)⟩
theorem len_nilB (w : World) : Calls Try.prog 78 #[.pointer none] w fun e w' => e = .returned (.int .i64 0) ∧ Below w.heap.size w w' := (len_nil w).mono fun e w' ⟨a, b⟩ => ⟨a, b ▸ Below.refl _ _⟩
theorem glen_nil (p : PKey) (q : Bool) (i : Int) (w : World) : Calls Try.prog 15 #[.pointer none, pK p] w fun e w' => e = .returned (.int .i64 0) ∧ Below w.heap.size w w' := by
  have hb1 := (Below.refl _ w).alloc (Nat.le_refl _) (.cells #[.int .i64 p.1, .int .i64 p.2.1, .int .i64 p.2.2] 28)
  have yp := heap_alloc_new w (.cells #[.int .i64 p.1, .int .i64 p.2.1, .int .i64 p.2.2] 28)
  have k1 := row_nil p (w.alloc (.cells #[.int .i64 p.1, .int .i64 p.2.1, .int .i64 p.2.2] 28))
  obtain ⟨d0, d1, d2⟩ := pl_cells yp
  unfold pK P.hK at *
  go_enter Try.func15, Try.ntmps15
  go_upto_region 1 with fail
  generalize w.alloc (.cells #[.int .i64 p.1, .int .i64 p.2.1, .int .i64 p.2.2] 28) = W at hb1 yp d0 d1 d2 k1 ⊢
  go_wp2_with (first | (go_at_call 27; refine k1.mono ?_; rintro e w1 ⟨rfl, hb2⟩; unfold none94) | (go_at_call 78; refine (len_nilB _).mono ?_; rintro e w2 ⟨rfl, hb3⟩; have hbf := hb1.trans ((hb2.trans (hb3.mono hb2.size)).mono hb1.size)))
  all_goals go_returns
  all_goals exact ⟨rfl, hbf⟩
theorem gkind_nil (p : PKey) (q : Bool) (i : Int) (w : World) : Calls Try.prog 19 #[.pointer none, pK p] w fun e w' => e = .returned (.int .u8 0) ∧ Below w.heap.size w w' := by
  have hb1 := (Below.refl _ w).alloc (Nat.le_refl _) (.cells #[.int .i64 p.1, .int .i64 p.2.1, .int .i64 p.2.2] 28)
  have yp := heap_alloc_new w (.cells #[.int .i64 p.1, .int .i64 p.2.1, .int .i64 p.2.2] 28)
  have k1 := row_nil p (w.alloc (.cells #[.int .i64 p.1, .int .i64 p.2.1, .int .i64 p.2.2] 28))
  obtain ⟨d0, d1, d2⟩ := pl_cells yp
  unfold pK P.hK at *
  go_enter Try.func19, Try.ntmps19
  go_upto_region 1 with fail
  generalize w.alloc (.cells #[.int .i64 p.1, .int .i64 p.2.1, .int .i64 p.2.2] 28) = W at hb1 yp d0 d1 d2 k1 ⊢
  go_wp2_with (first | (go_at_call 27; refine k1.mono ?_; rintro e w1 ⟨rfl, hb2⟩; unfold none94) | (go_at_call 118; refine (kind_none _).mono ?_; rintro e w2 ⟨rfl, hb3⟩; have hbf := hb1.trans ((hb2.trans (hb3.mono hb2.size)).mono hb1.size)))
  all_goals go_returns
  all_goals exact ⟨rfl, hbf⟩
theorem gpeek_nil (p : PKey) (q : Bool) (i : Int) (w : World) : Calls Try.prog 20 #[.pointer none, pK p, .bool q] w fun e w' => e = .returned (.tuple #[zH, .bool false]) ∧ Below w.heap.size w w' := by
  have hb1 := ((Below.refl _ w).alloc (Nat.le_refl _) (.cells #[.int .i64 p.1, .int .i64 p.2.1, .int .i64 p.2.2] 28)).alloc (by simp) (.cells #[.int .i64 0, .int .u64 0] 31)
  have y6 := heap_alloc_new (w.alloc (.cells #[.int .i64 p.1, .int .i64 p.2.1, .int .i64 p.2.2] 28)) (.cells #[.int .i64 0, .int .u64 0] 31)
  rw [World.size_alloc] at y6
  have yp := heap_al (heap_alloc_new w (.cells #[.int .i64 p.1, .int .i64 p.2.1, .int .i64 p.2.2] 28)) (.cells #[.int .i64 0, .int .u64 0] 31)
  have k1 := row_nil p ((w.alloc (.cells #[.int .i64 p.1, .int .i64 p.2.1, .int .i64 p.2.2] 28)).alloc (.cells #[.int .i64 0, .int .u64 0] 31))
  obtain ⟨d0, d1, d2⟩ := pl_cells yp
  unfold pK P.hK at *
  go_enter Try.func20, Try.ntmps20
  go_upto_region 1 with fail
  generalize (w.alloc (.cells #[.int .i64 p.1, .int .i64 p.2.1, .int .i64 p.2.2] 28)).alloc (.cells #[.int .i64 0, .int .u64 0] 31) = W at hb1 yp d0 d1 d2 k1 y6 ⊢
  go_wp2_with (first | (go_at_call 27; refine k1.mono ?_; rintro e w1 ⟨rfl, hb2⟩; unfold none94) | (go_at_call 79; refine (peek_nil q _).mono ?_; rintro e w2 ⟨rfl, hb3⟩; have hbf := hb1.trans ((hb2.trans (hb3.mono hb2.size)).mono hb1.size); have y7 := ((hb2.trans (hb3.mono hb2.size)).block _ (heap_lt y6)).trans y6; obtain ⟨s0, s1, s2, s3⟩ := put2 y7 (.int .i64 0) (.int .u64 0); have f0 := froz_of y7 0; have f1 := froz_of y7 1; have z0 := cell_of y7 0; have z1 := cell_of y7 1; simp at z0 z1; replace hbf := (Below.setCell (p := (⟨w.heap.size + 1, 0, none⟩ : Addr)) hbf (Nat.le_succ _) (.int .i64 0)).setCell (p := (⟨w.heap.size + 1, 1, none⟩ : Addr)) (Nat.le_succ _) (.int .u64 0)))
  refine bodyPost_ret (by simp [results, Try.results20, go_sem, s0, s1, s2, s3]; try rfl) rfl ?_
  exact ⟨rfl, hbf⟩
theorem gat_nil (p : PKey) (q : Bool) (i : Int) (w : World) : Calls Try.prog 16 #[.pointer none, pK p, .int .i64 i] w fun e w' => e = .returned (.tuple #[zH, .bool false]) ∧ Below w.heap.size w w' := by
  have hb1 := ((Below.refl _ w).alloc (Nat.le_refl _) (.cells #[.int .i64 p.1, .int .i64 p.2.1, .int .i64 p.2.2] 28)).alloc (by simp) (.cells #[.int .i64 0, .int .u64 0] 31)
  have y6 := heap_alloc_new (w.alloc (.cells #[.int .i64 p.1, .int .i64 p.2.1, .int .i64 p.2.2] 28)) (.cells #[.int .i64 0, .int .u64 0] 31)
  rw [World.size_alloc] at y6
  have yp := heap_al (heap_alloc_new w (.cells #[.int .i64 p.1, .int .i64 p.2.1, .int .i64 p.2.2] 28)) (.cells #[.int .i64 0, .int .u64 0] 31)
  have k1 := row_nil p ((w.alloc (.cells #[.int .i64 p.1, .int .i64 p.2.1, .int .i64 p.2.2] 28)).alloc (.cells #[.int .i64 0, .int .u64 0] 31))
  obtain ⟨d0, d1, d2⟩ := pl_cells yp
  unfold pK P.hK at *
  go_enter Try.func16, Try.ntmps16
  go_upto_region 1 with fail
  generalize (w.alloc (.cells #[.int .i64 p.1, .int .i64 p.2.1, .int .i64 p.2.2] 28)).alloc (.cells #[.int .i64 0, .int .u64 0] 31) = W at hb1 yp d0 d1 d2 k1 y6 ⊢
  go_wp2_with (first | (go_at_call 27; refine k1.mono ?_; rintro e w1 ⟨rfl, hb2⟩; unfold none94) | (go_at_call 86; refine (lat_nil i _).mono ?_; rintro e w2 ⟨rfl, hb3⟩; have hbf := hb1.trans ((hb2.trans (hb3.mono hb2.size)).mono hb1.size); have y7 := ((hb2.trans (hb3.mono hb2.size)).block _ (heap_lt y6)).trans y6; obtain ⟨s0, s1, s2, s3⟩ := put2 y7 (.int .i64 0) (.int .u64 0); have f0 := froz_of y7 0; have f1 := froz_of y7 1; have z0 := cell_of y7 0; have z1 := cell_of y7 1; simp at z0 z1; replace hbf := (Below.setCell (p := (⟨w.heap.size + 1, 0, none⟩ : Addr)) hbf (Nat.le_succ _) (.int .i64 0)).setCell (p := (⟨w.heap.size + 1, 1, none⟩ : Addr)) (Nat.le_succ _) (.int .u64 0)))
  refine bodyPost_ret (by simp [results, Try.results16, go_sem, s0, s1, s2, s3]; try rfl) rfl ?_
  exact ⟨rfl, hbf⟩
theorem gin_nil (k : HKey) (n : Int) (w : World) : Calls Try.prog 14 #[.pointer none, hK2 k, .int .i64 n] w fun e w' => e = .returned (.tuple #[zP, .bool false]) ∧ Below w.heap.size w w' := by
  have hb1 := ((Below.refl _ w).alloc (Nat.le_refl _) (.cells #[.int .i64 k.1, .int .u64 k.2] 31)).alloc (by simp) (.cells #[.int .i64 0, .int .i64 0, .int .i64 0] 28)
  have k1 := fun W => gmade_nil W
  unfold hK2
  go_enter Try.func14, Try.ntmps14
  go_wp2_with (go_at_call 28; refine (k1 _).mono ?_; rintro e w' ⟨rfl, hw⟩; rw [hw]; clear hw)
  all_goals go_returns
  all_goals exact ⟨rfl, hb1⟩
theorem places_nil (w : World) : Calls Try.prog 17 #[.pointer none] w fun e w' => e = .returned (.slice none 0 0) ∧ w' = w := by
  have k1 := fun W => gmade_nil W
  go_enter Try.func17, Try.ntmps17
  go_wp2_with (go_at_call 28; refine (k1 _).mono ?_; rintro e w' ⟨rfl, hw⟩; rw [hw]; clear hw)
  all_goals go_returns
  all_goals exact ⟨rfl, rfl⟩
theorem gpop_nil (p : PKey) (q : Bool) (w : World) : Calls Try.prog 11 #[.pointer none, pK p, .bool q] w fun e w' => e = .returned (.tuple #[zH, .bool false]) ∧ Below w.heap.size w w' := by
  have hb1 := ((Below.refl _ w).alloc (Nat.le_refl _) (.cells #[.int .i64 p.1, .int .i64 p.2.1, .int .i64 p.2.2] 28)).alloc (by simp) (.cells #[.int .i64 0, .int .u64 0] 31)
  have y4 := heap_al (heap_alloc_new w (.cells #[.int .i64 p.1, .int .i64 p.2.1, .int .i64 p.2.2] 28)) (.cells #[.int .i64 0, .int .u64 0] 31)
  have y6 := heap_alloc_new (w.alloc (.cells #[.int .i64 p.1, .int .i64 p.2.1, .int .i64 p.2.2] 28)) (.cells #[.int .i64 0, .int .u64 0] 31)
  rw [World.size_alloc] at y6
  have k1 := gpeek_nil p q 0 ((w.alloc (.cells #[.int .i64 p.1, .int .i64 p.2.1, .int .i64 p.2.2] 28)).alloc (.cells #[.int .i64 0, .int .u64 0] 31))
  obtain ⟨d0, d1, d2⟩ := pl_cells y4
  unfold pK P.hK at *
  go_enter Try.func11, Try.ntmps11
  go_upto_region 1 with fail
  generalize (w.alloc (.cells #[.int .i64 p.1, .int .i64 p.2.1, .int .i64 p.2.2] 28)).alloc (.cells #[.int .i64 0, .int .u64 0] 31) = W at hb1 y4 y6 k1 d0 d1 d2 ⊢
  go_upto_region 2 with (go_at_call 20; refine k1.mono ?_; rintro e w1 ⟨rfl, hb2⟩)
  have y6 := heap_al ((hb2.block _ (heap_lt y6)).trans y6) (.cells #[.int .i64 0, .int .u64 0] 31)
  have ya := heap_alloc_new w1 (.cells #[.int .i64 0, .int .u64 0] 31)
  have hw1 := hb1.trans (hb2.mono hb1.size)
  have hb3 : Below w.heap.size w (w1.alloc (.cells #[.int .i64 0, .int .u64 0] 31)) := hw1.alloc hw1.size _
  clear k1 hb1 hb2 d0 d1 d2 hw1 y4
  generalize w1.alloc (.cells #[.int .i64 0, .int .u64 0] 31) = w2 at y6 ya hb3 ⊢
  generalize w1.heap.size = a at ya ⊢
  obtain ⟨b0, b1⟩ := hd_cells (k := ((0, 0) : HKey)) ya
  obtain ⟨s0, s1, s2, s3⟩ := put2 y6 (.int .i64 0) (.int .u64 0)
  have f0 := froz_of y6 0
  have f1 := froz_of y6 1
  have z0 := cell_of y6 0
  have z1 := cell_of y6 1
  simp at z0 z1
  have hbs : Below w.heap.size w ((w2.setCell ⟨w.heap.size + 1, 0, none⟩ (.int .i64 0)).setCell ⟨w.heap.size + 1, 1, none⟩ (.int .u64 0)) := Below.setCell (p := (⟨w.heap.size + 1, 1, none⟩ : Addr)) (Below.setCell (p := (⟨w.heap.size + 1, 0, none⟩ : Addr)) hb3 (Nat.le_succ _) _) (Nat.le_succ _) _
  go_wp2
  refine bodyPost_ret (by simp [results, Try.results11, go_sem, s0, s1, s2, s3]; try rfl) rfl ?_
  exact ⟨rfl, hbs⟩
theorem grem_nil (p : PKey) (k : HKey) (n : Int) (w : World) : Calls Try.prog 12 #[.pointer none, pK p, hK2 k, .int .i64 n] w fun e w' => e = .returned (.bool false) ∧ Below w.heap.size w w' := by
  have hb1 := ((Below.refl _ w).alloc (Nat.le_refl _) (.cells #[.int .i64 p.1, .int .i64 p.2.1, .int .i64 p.2.2] 28)).alloc (by simp) (.cells #[.int .i64 k.1, .int .u64 k.2] 31)
  have y5 := heap_al (heap_alloc_new w (.cells #[.int .i64 p.1, .int .i64 p.2.1, .int .i64 p.2.2] 28)) (.cells #[.int .i64 k.1, .int .u64 k.2] 31)
  have y6 := heap_alloc_new (w.alloc (.cells #[.int .i64 p.1, .int .i64 p.2.1, .int .i64 p.2.2] 28)) (.cells #[.int .i64 k.1, .int .u64 k.2] 31)
  rw [World.size_alloc] at y6
  have k1 := gin_nil k n ((w.alloc (.cells #[.int .i64 p.1, .int .i64 p.2.1, .int .i64 p.2.2] 28)).alloc (.cells #[.int .i64 k.1, .int .u64 k.2] 31))
  obtain ⟨c0, c1⟩ := hd_cells y6
  unfold pK P.hK hK2 at *
  go_enter Try.func12, Try.ntmps12
  go_upto_region 1 with fail
  generalize (w.alloc (.cells #[.int .i64 p.1, .int .i64 p.2.1, .int .i64 p.2.2] 28)).alloc (.cells #[.int .i64 k.1, .int .u64 k.2] 31) = W at hb1 y5 y6 k1 c0 c1 ⊢
  go_upto_region 2 with (go_at_call 14; refine k1.mono ?_; rintro e w1 ⟨rfl, hb2⟩)
  have hw1 := hb1.trans (hb2.mono hb1.size)
  have hb3 : Below w.heap.size w (w1.alloc (.cells #[.int .i64 0, .int .i64 0, .int .i64 0] 28)) := hw1.alloc hw1.size _
  go_wp2
  all_goals go_returns
  all_goals exact ⟨rfl, hb3⟩
theorem gdrain_nil (p : PKey) (w : World) : Calls Try.prog 13 #[.pointer none, pK p] w fun e w' => e = .returned (.slice none 0 0) ∧ Below w.heap.size w w' := by
  have hb1 := (Below.refl _ w).alloc (Nat.le_refl _) (.cells #[.int .i64 p.1, .int .i64 p.2.1, .int .i64 p.2.2] 28)
  have y3 := heap_alloc_new w (.cells #[.int .i64 p.1, .int .i64 p.2.1, .int .i64 p.2.2] 28)
  have k1 := row_nil p (w.alloc (.cells #[.int .i64 p.1, .int .i64 p.2.1, .int .i64 p.2.2] 28))
  obtain ⟨d0, d1, d2⟩ := pl_cells y3
  unfold pK P.hK at *
  go_enter Try.func13, Try.ntmps13
  go_upto_region 1 with fail
  generalize w.alloc (.cells #[.int .i64 p.1, .int .i64 p.2.1, .int .i64 p.2.2] 28) = W at hb1 y3 k1 d0 d1 d2 ⊢
  go_wp2_with (first | (go_at_call 27; refine k1.mono ?_; rintro e w1 ⟨rfl, hb2⟩; unfold none94) | (go_at_call 77; refine (all_nil _).mono ?_; rintro e w2 ⟨rfl, hw⟩; rw [hw]; clear hw))
  go_loopw [14] (fun n14 wr => n14 = .int .i64 0 ∧ wr = w1) (fun _ _ => 0)
  case atStart => exact ⟨rfl, rfl⟩
  case round =>
    obtain ⟨rfl, rfl⟩ := hrel
    go_wp2
    all_goals go_returns
    all_goals exact ⟨rfl, hb1.trans (hb2.mono hb1.size)⟩
/-- What is asked of a graph, as it is told. -/
theorem zh_oV : oV none = zH := rfl
section
variable (w : World) (B g N : Nat) (Y : Ys) (A : Nat → Prop) (h : Gi w B g N Y A) (p : PKey)
include h
theorem gi_len : Calls Try.prog 15 #[.pointer (some ⟨g, 0, none⟩), pK p] w fun e w' => e = .returned (.int .i64 (lenY Y p)) ∧ Below w.heap.size w w' := by
  obtain ⟨m1, m2, Z, h, rfl, rfl⟩ := h
  rw [← lenZ_eq]
  exact glen_any w B g m1 m2 N Z h p
theorem gi_kind : Calls Try.prog 19 #[.pointer (some ⟨g, 0, none⟩), pK p] w fun e w' => e = .returned (.int .u8 (kindY Y p)) ∧ Below w.heap.size w w' := by
  obtain ⟨m1, m2, Z, h, rfl, rfl⟩ := h
  rw [← kindZ_eq]
  exact gkind_any w B g m1 m2 N Z h p
theorem gi_peek (q : Bool) : Calls Try.prog 20 #[.pointer (some ⟨g, 0, none⟩), pK p, .bool q] w fun e w' => e = .returned (.tuple #[oV ((peekY Y p q).map Prod.fst), .bool (peekY Y p q).isSome]) ∧ Below w.heap.size w w' := by
  obtain ⟨m1, m2, Z, h, rfl, rfl⟩ := h
  have := gpeek_any w B g m1 m2 N Z h p q
  rw [peekZ_eq, Option.isSome_map] at this
  exact this
theorem gi_at (hN : N ≤ 2000) (i : Int) : Calls Try.prog 16 #[.pointer (some ⟨g, 0, none⟩), pK p, .int .i64 i] w fun e w' => e = .returned (.tuple #[oV ((atY Y p i).map Prod.fst), .bool (atY Y p i).isSome]) ∧ Below w.heap.size w w' := by
  obtain ⟨m1, m2, Z, h, rfl, rfl⟩ := h
  have := gat_any w B g m1 m2 N Z h p hN i
  rw [atZ_eq, Option.isSome_map] at this
  exact this
end
theorem gi_in (w : World) (B g N : Nat) (Y : Ys) (A : Nat → Prop) (h : Gi w B g N Y A) (f : FKey) :
    ∃ (p : PKey) (b : Bool), ((b = true ∧ ∃ y, Y p = some y ∧ f ∈ y.2) ∨ (b = false ∧ p = (0, 0, 0) ∧ ¬ There Y f)) ∧
    Calls Try.prog 14 #[.pointer (some ⟨g, 0, none⟩), hK2 f.1, .int .i64 f.2] w fun e w' => e = .returned (.tuple #[pK p, .bool b]) ∧ Below w.heap.size w w' := by
  obtain ⟨m1, m2, Z, h, rfl, rfl⟩ := h
  obtain ⟨p, b, hpb, k⟩ := gin_any w B g m1 m2 N Z h f
  refine ⟨p, b, ?_, k⟩
  rcases hpb with ⟨e, x, hx, hf⟩ | ⟨e, e2, hf⟩
  · exact .inl ⟨e, (x.tr, x.L), by simp [yOf, hx], hf⟩
  · exact .inr ⟨e, e2, there_not hf⟩
end Go.Proofs.Ythgpbbpmfpfjnaa
