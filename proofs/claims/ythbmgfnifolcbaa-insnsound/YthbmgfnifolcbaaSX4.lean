/- Towards the statement InsnSound: its walk, way by way. -/
import Derived.Test.YthbmgfnifolcbaaST
import Derived.Test.YthbmgfnifolcbaaTC
namespace Go.Proofs.Ythbmgfnifolcbaa
open Go.ChangeShapes Go.WideShapes Go.ChangeAt Go.RowKit
set_option linter.unusedVariables false
set_option linter.unusedSimpArgs false
set_option maxRecDepth 100000
set_option maxHeartbeats 16000000 in
theorem sound_5_1_0_f (o d s f i : Int) (h0 : 0 ≤ o) (h1 : o ≤ 255) (d0 : 0 ≤ d) (d1 : d ≤ 255) (s0 : 0 ≤ s) (s1 : s ≤ 255) (hk : kV o d s f i = 5) (x : Int) (hl : rdL (kV o d s f i) o d s = [x]) (hx : decide (11 ≤ x) = false) (hz : szK (kV o d s f i) o = 0) (hw : wideB (kV o d s f i) o = false) (hd : decide (10 ≤ wrV (kV o d s f i) d) = false) (hr : kV o d s f i ≠ 0 → d < 11 ∧ s < 11) (w : World) : Calls Try.prog 6 #[ins o d s f i] w fun e w' => e = .returned (.bool true) ∧ Below w.heap.size w w' := by
  rw [hk] at hl hz hw hd hr
  have hwb : wrB 5 = false := by decide
  have hw0 : wrV 5 d = 0 := by simp [wrV]
  have q1 : decide (d < 11) = true := by simpa using (hr (by decide)).1
  have q2 : decide (s < 11) = true := by simpa using (hr (by decide)).2
  clear hr
  go_enter Try.func6, Try.ntmps6
  go_upto_region 1 with fail
  have HG : Below w.heap.size w (w.alloc (Obj.cells #[.int .u8 o, .int .u8 d, .int .u8 s, .int .i16 f, .int .i32 i] 24)) := (Below.refl _ w).alloc (Nat.le_refl _) _
  have HB := At5.new w o d s f i
  generalize (w.alloc (Obj.cells #[.int .u8 o, .int .u8 d, .int .u8 s, .int .i16 f, .int .i32 i] 24)) = W at HG HB ⊢
  generalize hBs : w.heap.size = B at HB ⊢
  obtain ⟨c0, c1, c2, c3, c4⟩ := HB.cells
  go_upto_region 3 with (first | (go_at_call 13; refine (gr_below (kind_any _ _ _ _ _ h0 h1 d0 d1 s0 s1 _)).mono ?_; rw [hk]; rintro r w1 ⟨rfl, hb⟩; replace HG := HG.trans (hb.mono HG.size); replace HB := HB.below hb; clear hb; obtain ⟨c0, c1, c2, c3, c4⟩ := HB.cells) | (go_at_call 24; refine (reads_any _ _ _ _ _ h0 h1 d0 d1 s0 s1 _).mono ?_; rw [hk, hl]; rintro r w2 ⟨v, rfl, hv, hb⟩; replace HG := HG.trans (hb.mono HG.size); replace HB := HB.below hb; clear hb; obtain ⟨c0, c1, c2, c3, c4⟩ := HB.cells))
  obtain ⟨lb, lo, lc, rfl, hlc⟩ := bytes_some hv
  have hlb : lb < w2.heap.size := by
    rcases hv with ⟨_, e⟩ | ⟨b', off', cap', e, hb', _⟩
    · cases e
    · cases e; exact hb'
  have l0 : w2.cell? ⟨lb, lo, none⟩ = some (.int .u8 x) := by simpa using hlc 0 (by simp)
  clear hv hlc
  go_wp2_with (first | (go_at_call 21; refine (gr_below (writes_any _ _ _ _ _ h0 h1 d0 d1 s0 s1 _)).mono ?_; rw [hk]; rintro r w3 ⟨rfl, hb⟩; replace HG := HG.trans (hb.mono HG.size); replace HB := HB.below hb; replace l0 := (hb.cell (p := ⟨lb, lo, none⟩) hlb).trans l0; replace hlb := Nat.lt_of_lt_of_le hlb hb.size; clear hb; obtain ⟨c0, c1, c2, c3, c4⟩ := HB.cells) | (go_at_call 17; refine (gr_below (isize_any _ _ _ _ _ h0 h1 d0 d1 s0 s1 _)).mono ?_; rw [hk, hz]; rintro r w3 ⟨rfl, hb⟩; replace HG := HG.trans (hb.mono HG.size); replace HB := HB.below hb; replace l0 := (hb.cell (p := ⟨lb, lo, none⟩) hlb).trans l0; replace hlb := Nat.lt_of_lt_of_le hlb hb.size; clear hb; obtain ⟨c0, c1, c2, c3, c4⟩ := HB.cells) | (go_at_call 19; refine (gr_below (wide_any _ _ _ _ _ h0 h1 d0 d1 s0 s1 _)).mono ?_; rw [hk, hw]; rintro r w3 ⟨rfl, hb⟩; replace HG := HG.trans (hb.mono HG.size); replace HB := HB.below hb; replace l0 := (hb.cell (p := ⟨lb, lo, none⟩) hlb).trans l0; replace hlb := Nat.lt_of_lt_of_le hlb hb.size; clear hb; obtain ⟨c0, c1, c2, c3, c4⟩ := HB.cells) | (go_at_call 8; refine (alive_any _).mono ?_; rintro r w3 ⟨rfl, hb⟩; replace HG := HG.trans (hb.mono HG.size); replace HB := HB.below hb; replace l0 := (hb.cell (p := ⟨lb, lo, none⟩) hlb).trans l0; replace hlb := Nat.lt_of_lt_of_le hlb hb.size; clear hb; obtain ⟨c0, c1, c2, c3, c4⟩ := HB.cells))
  refine wp_loop_rounds 2 ?_
  rw [rounds_succ]
  go_upto_region 10 with (first | (go_at_call 21; refine (gr_below (writes_any _ _ _ _ _ h0 h1 d0 d1 s0 s1 _)).mono ?_; rw [hk]; rintro r w3 ⟨rfl, hb⟩; replace HG := HG.trans (hb.mono HG.size); replace HB := HB.below hb; replace l0 := (hb.cell (p := ⟨lb, lo, none⟩) hlb).trans l0; replace hlb := Nat.lt_of_lt_of_le hlb hb.size; clear hb; obtain ⟨c0, c1, c2, c3, c4⟩ := HB.cells) | (go_at_call 17; refine (gr_below (isize_any _ _ _ _ _ h0 h1 d0 d1 s0 s1 _)).mono ?_; rw [hk, hz]; rintro r w3 ⟨rfl, hb⟩; replace HG := HG.trans (hb.mono HG.size); replace HB := HB.below hb; replace l0 := (hb.cell (p := ⟨lb, lo, none⟩) hlb).trans l0; replace hlb := Nat.lt_of_lt_of_le hlb hb.size; clear hb; obtain ⟨c0, c1, c2, c3, c4⟩ := HB.cells) | (go_at_call 19; refine (gr_below (wide_any _ _ _ _ _ h0 h1 d0 d1 s0 s1 _)).mono ?_; rw [hk, hw]; rintro r w3 ⟨rfl, hb⟩; replace HG := HG.trans (hb.mono HG.size); replace HB := HB.below hb; replace l0 := (hb.cell (p := ⟨lb, lo, none⟩) hlb).trans l0; replace hlb := Nat.lt_of_lt_of_le hlb hb.size; clear hb; obtain ⟨c0, c1, c2, c3, c4⟩ := HB.cells) | (go_at_call 8; refine (alive_any _).mono ?_; rintro r w3 ⟨rfl, hb⟩; replace HG := HG.trans (hb.mono HG.size); replace HB := HB.below hb; replace l0 := (hb.cell (p := ⟨lb, lo, none⟩) hlb).trans l0; replace hlb := Nat.lt_of_lt_of_le hlb hb.size; clear hb; obtain ⟨c0, c1, c2, c3, c4⟩ := HB.cells))
  go_quiet (fail)
  replace HG : Below w.heap.size w (_ : World) := HG.trans (below_n _ nq)
  replace HB := HB.below (below_n _ nq)
  replace l0 := ((below_n (B := _) _ nq).cell (p := ⟨lb, lo, none⟩) hlb).trans l0
  replace hlb : lb < (World.drewN _ nq).heap.size := hlb
  generalize (World.drewN _ nq) = V0 at HG HB l0 hlb ⊢
  clear c0 c1 c2 c3 c4
  obtain ⟨c0, c1, c2, c3, c4⟩ := HB.cells
  go_wp2_with (first | (go_at_call 21; refine (gr_below (writes_any _ _ _ _ _ h0 h1 d0 d1 s0 s1 _)).mono ?_; rw [hk]; rintro r w3 ⟨rfl, hb⟩; replace HG := HG.trans (hb.mono HG.size); replace HB := HB.below hb; replace l0 := (hb.cell (p := ⟨lb, lo, none⟩) hlb).trans l0; replace hlb := Nat.lt_of_lt_of_le hlb hb.size; clear hb; obtain ⟨c0, c1, c2, c3, c4⟩ := HB.cells) | (go_at_call 17; refine (gr_below (isize_any _ _ _ _ _ h0 h1 d0 d1 s0 s1 _)).mono ?_; rw [hk, hz]; rintro r w3 ⟨rfl, hb⟩; replace HG := HG.trans (hb.mono HG.size); replace HB := HB.below hb; replace l0 := (hb.cell (p := ⟨lb, lo, none⟩) hlb).trans l0; replace hlb := Nat.lt_of_lt_of_le hlb hb.size; clear hb; obtain ⟨c0, c1, c2, c3, c4⟩ := HB.cells) | (go_at_call 19; refine (gr_below (wide_any _ _ _ _ _ h0 h1 d0 d1 s0 s1 _)).mono ?_; rw [hk, hw]; rintro r w3 ⟨rfl, hb⟩; replace HG := HG.trans (hb.mono HG.size); replace HB := HB.below hb; replace l0 := (hb.cell (p := ⟨lb, lo, none⟩) hlb).trans l0; replace hlb := Nat.lt_of_lt_of_le hlb hb.size; clear hb; obtain ⟨c0, c1, c2, c3, c4⟩ := HB.cells) | (go_at_call 8; refine (alive_any _).mono ?_; rintro r w3 ⟨rfl, hb⟩; replace HG := HG.trans (hb.mono HG.size); replace HB := HB.below hb; replace l0 := (hb.cell (p := ⟨lb, lo, none⟩) hlb).trans l0; replace hlb := Nat.lt_of_lt_of_le hlb hb.size; clear hb; obtain ⟨c0, c1, c2, c3, c4⟩ := HB.cells))
  rw [rounds_succ]
  go_wp2_with (first | (go_at_call 21; refine (gr_below (writes_any _ _ _ _ _ h0 h1 d0 d1 s0 s1 _)).mono ?_; rw [hk]; rintro r w3 ⟨rfl, hb⟩; replace HG := HG.trans (hb.mono HG.size); replace HB := HB.below hb; replace l0 := (hb.cell (p := ⟨lb, lo, none⟩) hlb).trans l0; replace hlb := Nat.lt_of_lt_of_le hlb hb.size; clear hb; obtain ⟨c0, c1, c2, c3, c4⟩ := HB.cells) | (go_at_call 17; refine (gr_below (isize_any _ _ _ _ _ h0 h1 d0 d1 s0 s1 _)).mono ?_; rw [hk, hz]; rintro r w3 ⟨rfl, hb⟩; replace HG := HG.trans (hb.mono HG.size); replace HB := HB.below hb; replace l0 := (hb.cell (p := ⟨lb, lo, none⟩) hlb).trans l0; replace hlb := Nat.lt_of_lt_of_le hlb hb.size; clear hb; obtain ⟨c0, c1, c2, c3, c4⟩ := HB.cells) | (go_at_call 19; refine (gr_below (wide_any _ _ _ _ _ h0 h1 d0 d1 s0 s1 _)).mono ?_; rw [hk, hw]; rintro r w3 ⟨rfl, hb⟩; replace HG := HG.trans (hb.mono HG.size); replace HB := HB.below hb; replace l0 := (hb.cell (p := ⟨lb, lo, none⟩) hlb).trans l0; replace hlb := Nat.lt_of_lt_of_le hlb hb.size; clear hb; obtain ⟨c0, c1, c2, c3, c4⟩ := HB.cells) | (go_at_call 8; refine (alive_any _).mono ?_; rintro r w3 ⟨rfl, hb⟩; replace HG := HG.trans (hb.mono HG.size); replace HB := HB.below hb; replace l0 := (hb.cell (p := ⟨lb, lo, none⟩) hlb).trans l0; replace hlb := Nat.lt_of_lt_of_le hlb hb.size; clear hb; obtain ⟨c0, c1, c2, c3, c4⟩ := HB.cells))
  go_returns
  exact ⟨rfl, HG⟩
set_option maxHeartbeats 16000000 in
theorem sound_5_2_0_t (o d s f i : Int) (h0 : 0 ≤ o) (h1 : o ≤ 255) (d0 : 0 ≤ d) (d1 : d ≤ 255) (s0 : 0 ≤ s) (s1 : s ≤ 255) (hk : kV o d s f i = 5) (x y : Int) (hl : rdL (kV o d s f i) o d s = [x, y]) (hx : decide (11 ≤ x) = false) (hy : decide (11 ≤ y) = false) (hxy : decide (y ≤ x) = false) (hz : szK (kV o d s f i) o = 0) (hw : wideB (kV o d s f i) o = true) (hd : decide (10 ≤ wrV (kV o d s f i) d) = false) (hr : kV o d s f i ≠ 0 → d < 11 ∧ s < 11) (w : World) : Calls Try.prog 6 #[ins o d s f i] w fun e w' => e = .returned (.bool true) ∧ Below w.heap.size w w' := by
  rw [hk] at hl hz hw hd hr
  have hwb : wrB 5 = false := by decide
  have hw0 : wrV 5 d = 0 := by simp [wrV]
  have q1 : decide (d < 11) = true := by simpa using (hr (by decide)).1
  have q2 : decide (s < 11) = true := by simpa using (hr (by decide)).2
  clear hr
  go_enter Try.func6, Try.ntmps6
  go_upto_region 1 with fail
  have HG : Below w.heap.size w (w.alloc (Obj.cells #[.int .u8 o, .int .u8 d, .int .u8 s, .int .i16 f, .int .i32 i] 24)) := (Below.refl _ w).alloc (Nat.le_refl _) _
  have HB := At5.new w o d s f i
  generalize (w.alloc (Obj.cells #[.int .u8 o, .int .u8 d, .int .u8 s, .int .i16 f, .int .i32 i] 24)) = W at HG HB ⊢
  generalize hBs : w.heap.size = B at HB ⊢
  obtain ⟨c0, c1, c2, c3, c4⟩ := HB.cells
  go_upto_region 3 with (first | (go_at_call 13; refine (gr_below (kind_any _ _ _ _ _ h0 h1 d0 d1 s0 s1 _)).mono ?_; rw [hk]; rintro r w1 ⟨rfl, hb⟩; replace HG := HG.trans (hb.mono HG.size); replace HB := HB.below hb; clear hb; obtain ⟨c0, c1, c2, c3, c4⟩ := HB.cells) | (go_at_call 24; refine (reads_any _ _ _ _ _ h0 h1 d0 d1 s0 s1 _).mono ?_; rw [hk, hl]; rintro r w2 ⟨v, rfl, hv, hb⟩; replace HG := HG.trans (hb.mono HG.size); replace HB := HB.below hb; clear hb; obtain ⟨c0, c1, c2, c3, c4⟩ := HB.cells))
  obtain ⟨lb, lo, lc, rfl, hlc⟩ := bytes_some hv
  have hlb : lb < w2.heap.size := by
    rcases hv with ⟨_, e⟩ | ⟨b', off', cap', e, hb', _⟩
    · cases e
    · cases e; exact hb'
  have l0 : w2.cell? ⟨lb, lo, none⟩ = some (.int .u8 x) := by simpa using hlc 0 (by simp)
  have l1 : w2.cell? ⟨lb, lo + 1, none⟩ = some (.int .u8 y) := by simpa using hlc 1 (by simp)
  clear hv hlc
  go_wp2_with (first | (go_at_call 21; refine (gr_below (writes_any _ _ _ _ _ h0 h1 d0 d1 s0 s1 _)).mono ?_; rw [hk]; rintro r w3 ⟨rfl, hb⟩; replace HG := HG.trans (hb.mono HG.size); replace HB := HB.below hb; replace l0 := (hb.cell (p := ⟨lb, lo, none⟩) hlb).trans l0; replace l1 := (hb.cell (p := ⟨lb, lo + 1, none⟩) hlb).trans l1; replace hlb := Nat.lt_of_lt_of_le hlb hb.size; clear hb; obtain ⟨c0, c1, c2, c3, c4⟩ := HB.cells) | (go_at_call 17; refine (gr_below (isize_any _ _ _ _ _ h0 h1 d0 d1 s0 s1 _)).mono ?_; rw [hk, hz]; rintro r w3 ⟨rfl, hb⟩; replace HG := HG.trans (hb.mono HG.size); replace HB := HB.below hb; replace l0 := (hb.cell (p := ⟨lb, lo, none⟩) hlb).trans l0; replace l1 := (hb.cell (p := ⟨lb, lo + 1, none⟩) hlb).trans l1; replace hlb := Nat.lt_of_lt_of_le hlb hb.size; clear hb; obtain ⟨c0, c1, c2, c3, c4⟩ := HB.cells) | (go_at_call 19; refine (gr_below (wide_any _ _ _ _ _ h0 h1 d0 d1 s0 s1 _)).mono ?_; rw [hk, hw]; rintro r w3 ⟨rfl, hb⟩; replace HG := HG.trans (hb.mono HG.size); replace HB := HB.below hb; replace l0 := (hb.cell (p := ⟨lb, lo, none⟩) hlb).trans l0; replace l1 := (hb.cell (p := ⟨lb, lo + 1, none⟩) hlb).trans l1; replace hlb := Nat.lt_of_lt_of_le hlb hb.size; clear hb; obtain ⟨c0, c1, c2, c3, c4⟩ := HB.cells) | (go_at_call 8; refine (alive_any _).mono ?_; rintro r w3 ⟨rfl, hb⟩; replace HG := HG.trans (hb.mono HG.size); replace HB := HB.below hb; replace l0 := (hb.cell (p := ⟨lb, lo, none⟩) hlb).trans l0; replace l1 := (hb.cell (p := ⟨lb, lo + 1, none⟩) hlb).trans l1; replace hlb := Nat.lt_of_lt_of_le hlb hb.size; clear hb; obtain ⟨c0, c1, c2, c3, c4⟩ := HB.cells))
  refine wp_loop_rounds 3 ?_
  rw [rounds_succ]
  go_upto_region 10 with (first | (go_at_call 21; refine (gr_below (writes_any _ _ _ _ _ h0 h1 d0 d1 s0 s1 _)).mono ?_; rw [hk]; rintro r w3 ⟨rfl, hb⟩; replace HG := HG.trans (hb.mono HG.size); replace HB := HB.below hb; replace l0 := (hb.cell (p := ⟨lb, lo, none⟩) hlb).trans l0; replace l1 := (hb.cell (p := ⟨lb, lo + 1, none⟩) hlb).trans l1; replace hlb := Nat.lt_of_lt_of_le hlb hb.size; clear hb; obtain ⟨c0, c1, c2, c3, c4⟩ := HB.cells) | (go_at_call 17; refine (gr_below (isize_any _ _ _ _ _ h0 h1 d0 d1 s0 s1 _)).mono ?_; rw [hk, hz]; rintro r w3 ⟨rfl, hb⟩; replace HG := HG.trans (hb.mono HG.size); replace HB := HB.below hb; replace l0 := (hb.cell (p := ⟨lb, lo, none⟩) hlb).trans l0; replace l1 := (hb.cell (p := ⟨lb, lo + 1, none⟩) hlb).trans l1; replace hlb := Nat.lt_of_lt_of_le hlb hb.size; clear hb; obtain ⟨c0, c1, c2, c3, c4⟩ := HB.cells) | (go_at_call 19; refine (gr_below (wide_any _ _ _ _ _ h0 h1 d0 d1 s0 s1 _)).mono ?_; rw [hk, hw]; rintro r w3 ⟨rfl, hb⟩; replace HG := HG.trans (hb.mono HG.size); replace HB := HB.below hb; replace l0 := (hb.cell (p := ⟨lb, lo, none⟩) hlb).trans l0; replace l1 := (hb.cell (p := ⟨lb, lo + 1, none⟩) hlb).trans l1; replace hlb := Nat.lt_of_lt_of_le hlb hb.size; clear hb; obtain ⟨c0, c1, c2, c3, c4⟩ := HB.cells) | (go_at_call 8; refine (alive_any _).mono ?_; rintro r w3 ⟨rfl, hb⟩; replace HG := HG.trans (hb.mono HG.size); replace HB := HB.below hb; replace l0 := (hb.cell (p := ⟨lb, lo, none⟩) hlb).trans l0; replace l1 := (hb.cell (p := ⟨lb, lo + 1, none⟩) hlb).trans l1; replace hlb := Nat.lt_of_lt_of_le hlb hb.size; clear hb; obtain ⟨c0, c1, c2, c3, c4⟩ := HB.cells))
  go_quiet (fail)
  replace HG : Below w.heap.size w (_ : World) := HG.trans (below_n _ nq)
  replace HB := HB.below (below_n _ nq)
  replace l0 := ((below_n (B := _) _ nq).cell (p := ⟨lb, lo, none⟩) hlb).trans l0
  replace l1 := ((below_n (B := _) _ nq).cell (p := ⟨lb, lo + 1, none⟩) hlb).trans l1
  replace hlb : lb < (World.drewN _ nq).heap.size := hlb
  generalize (World.drewN _ nq) = V0 at HG HB l0 l1 hlb ⊢
  clear c0 c1 c2 c3 c4
  obtain ⟨c0, c1, c2, c3, c4⟩ := HB.cells
  go_wp2_with (first | (go_at_call 21; refine (gr_below (writes_any _ _ _ _ _ h0 h1 d0 d1 s0 s1 _)).mono ?_; rw [hk]; rintro r w3 ⟨rfl, hb⟩; replace HG := HG.trans (hb.mono HG.size); replace HB := HB.below hb; replace l0 := (hb.cell (p := ⟨lb, lo, none⟩) hlb).trans l0; replace l1 := (hb.cell (p := ⟨lb, lo + 1, none⟩) hlb).trans l1; replace hlb := Nat.lt_of_lt_of_le hlb hb.size; clear hb; obtain ⟨c0, c1, c2, c3, c4⟩ := HB.cells) | (go_at_call 17; refine (gr_below (isize_any _ _ _ _ _ h0 h1 d0 d1 s0 s1 _)).mono ?_; rw [hk, hz]; rintro r w3 ⟨rfl, hb⟩; replace HG := HG.trans (hb.mono HG.size); replace HB := HB.below hb; replace l0 := (hb.cell (p := ⟨lb, lo, none⟩) hlb).trans l0; replace l1 := (hb.cell (p := ⟨lb, lo + 1, none⟩) hlb).trans l1; replace hlb := Nat.lt_of_lt_of_le hlb hb.size; clear hb; obtain ⟨c0, c1, c2, c3, c4⟩ := HB.cells) | (go_at_call 19; refine (gr_below (wide_any _ _ _ _ _ h0 h1 d0 d1 s0 s1 _)).mono ?_; rw [hk, hw]; rintro r w3 ⟨rfl, hb⟩; replace HG := HG.trans (hb.mono HG.size); replace HB := HB.below hb; replace l0 := (hb.cell (p := ⟨lb, lo, none⟩) hlb).trans l0; replace l1 := (hb.cell (p := ⟨lb, lo + 1, none⟩) hlb).trans l1; replace hlb := Nat.lt_of_lt_of_le hlb hb.size; clear hb; obtain ⟨c0, c1, c2, c3, c4⟩ := HB.cells) | (go_at_call 8; refine (alive_any _).mono ?_; rintro r w3 ⟨rfl, hb⟩; replace HG := HG.trans (hb.mono HG.size); replace HB := HB.below hb; replace l0 := (hb.cell (p := ⟨lb, lo, none⟩) hlb).trans l0; replace l1 := (hb.cell (p := ⟨lb, lo + 1, none⟩) hlb).trans l1; replace hlb := Nat.lt_of_lt_of_le hlb hb.size; clear hb; obtain ⟨c0, c1, c2, c3, c4⟩ := HB.cells))
  rw [rounds_succ]
  go_upto_region 10 with (first | (go_at_call 21; refine (gr_below (writes_any _ _ _ _ _ h0 h1 d0 d1 s0 s1 _)).mono ?_; rw [hk]; rintro r w3 ⟨rfl, hb⟩; replace HG := HG.trans (hb.mono HG.size); replace HB := HB.below hb; replace l0 := (hb.cell (p := ⟨lb, lo, none⟩) hlb).trans l0; replace l1 := (hb.cell (p := ⟨lb, lo + 1, none⟩) hlb).trans l1; replace hlb := Nat.lt_of_lt_of_le hlb hb.size; clear hb; obtain ⟨c0, c1, c2, c3, c4⟩ := HB.cells) | (go_at_call 17; refine (gr_below (isize_any _ _ _ _ _ h0 h1 d0 d1 s0 s1 _)).mono ?_; rw [hk, hz]; rintro r w3 ⟨rfl, hb⟩; replace HG := HG.trans (hb.mono HG.size); replace HB := HB.below hb; replace l0 := (hb.cell (p := ⟨lb, lo, none⟩) hlb).trans l0; replace l1 := (hb.cell (p := ⟨lb, lo + 1, none⟩) hlb).trans l1; replace hlb := Nat.lt_of_lt_of_le hlb hb.size; clear hb; obtain ⟨c0, c1, c2, c3, c4⟩ := HB.cells) | (go_at_call 19; refine (gr_below (wide_any _ _ _ _ _ h0 h1 d0 d1 s0 s1 _)).mono ?_; rw [hk, hw]; rintro r w3 ⟨rfl, hb⟩; replace HG := HG.trans (hb.mono HG.size); replace HB := HB.below hb; replace l0 := (hb.cell (p := ⟨lb, lo, none⟩) hlb).trans l0; replace l1 := (hb.cell (p := ⟨lb, lo + 1, none⟩) hlb).trans l1; replace hlb := Nat.lt_of_lt_of_le hlb hb.size; clear hb; obtain ⟨c0, c1, c2, c3, c4⟩ := HB.cells) | (go_at_call 8; refine (alive_any _).mono ?_; rintro r w3 ⟨rfl, hb⟩; replace HG := HG.trans (hb.mono HG.size); replace HB := HB.below hb; replace l0 := (hb.cell (p := ⟨lb, lo, none⟩) hlb).trans l0; replace l1 := (hb.cell (p := ⟨lb, lo + 1, none⟩) hlb).trans l1; replace hlb := Nat.lt_of_lt_of_le hlb hb.size; clear hb; obtain ⟨c0, c1, c2, c3, c4⟩ := HB.cells))
  go_quiet (fail)
  replace HG : Below w.heap.size w (_ : World) := HG.trans (below_n _ nq)
  replace HB := HB.below (below_n _ nq)
  replace l0 := ((below_n (B := _) _ nq).cell (p := ⟨lb, lo, none⟩) hlb).trans l0
  replace l1 := ((below_n (B := _) _ nq).cell (p := ⟨lb, lo + 1, none⟩) hlb).trans l1
  replace hlb : lb < (World.drewN _ nq).heap.size := hlb
  generalize (World.drewN _ nq) = V1 at HG HB l0 l1 hlb ⊢
  clear c0 c1 c2 c3 c4
  obtain ⟨c0, c1, c2, c3, c4⟩ := HB.cells
  go_wp2_with (first | (go_at_call 21; refine (gr_below (writes_any _ _ _ _ _ h0 h1 d0 d1 s0 s1 _)).mono ?_; rw [hk]; rintro r w3 ⟨rfl, hb⟩; replace HG := HG.trans (hb.mono HG.size); replace HB := HB.below hb; replace l0 := (hb.cell (p := ⟨lb, lo, none⟩) hlb).trans l0; replace l1 := (hb.cell (p := ⟨lb, lo + 1, none⟩) hlb).trans l1; replace hlb := Nat.lt_of_lt_of_le hlb hb.size; clear hb; obtain ⟨c0, c1, c2, c3, c4⟩ := HB.cells) | (go_at_call 17; refine (gr_below (isize_any _ _ _ _ _ h0 h1 d0 d1 s0 s1 _)).mono ?_; rw [hk, hz]; rintro r w3 ⟨rfl, hb⟩; replace HG := HG.trans (hb.mono HG.size); replace HB := HB.below hb; replace l0 := (hb.cell (p := ⟨lb, lo, none⟩) hlb).trans l0; replace l1 := (hb.cell (p := ⟨lb, lo + 1, none⟩) hlb).trans l1; replace hlb := Nat.lt_of_lt_of_le hlb hb.size; clear hb; obtain ⟨c0, c1, c2, c3, c4⟩ := HB.cells) | (go_at_call 19; refine (gr_below (wide_any _ _ _ _ _ h0 h1 d0 d1 s0 s1 _)).mono ?_; rw [hk, hw]; rintro r w3 ⟨rfl, hb⟩; replace HG := HG.trans (hb.mono HG.size); replace HB := HB.below hb; replace l0 := (hb.cell (p := ⟨lb, lo, none⟩) hlb).trans l0; replace l1 := (hb.cell (p := ⟨lb, lo + 1, none⟩) hlb).trans l1; replace hlb := Nat.lt_of_lt_of_le hlb hb.size; clear hb; obtain ⟨c0, c1, c2, c3, c4⟩ := HB.cells) | (go_at_call 8; refine (alive_any _).mono ?_; rintro r w3 ⟨rfl, hb⟩; replace HG := HG.trans (hb.mono HG.size); replace HB := HB.below hb; replace l0 := (hb.cell (p := ⟨lb, lo, none⟩) hlb).trans l0; replace l1 := (hb.cell (p := ⟨lb, lo + 1, none⟩) hlb).trans l1; replace hlb := Nat.lt_of_lt_of_le hlb hb.size; clear hb; obtain ⟨c0, c1, c2, c3, c4⟩ := HB.cells))
  rw [rounds_succ]
  go_wp2_with (first | (go_at_call 21; refine (gr_below (writes_any _ _ _ _ _ h0 h1 d0 d1 s0 s1 _)).mono ?_; rw [hk]; rintro r w3 ⟨rfl, hb⟩; replace HG := HG.trans (hb.mono HG.size); replace HB := HB.below hb; replace l0 := (hb.cell (p := ⟨lb, lo, none⟩) hlb).trans l0; replace l1 := (hb.cell (p := ⟨lb, lo + 1, none⟩) hlb).trans l1; replace hlb := Nat.lt_of_lt_of_le hlb hb.size; clear hb; obtain ⟨c0, c1, c2, c3, c4⟩ := HB.cells) | (go_at_call 17; refine (gr_below (isize_any _ _ _ _ _ h0 h1 d0 d1 s0 s1 _)).mono ?_; rw [hk, hz]; rintro r w3 ⟨rfl, hb⟩; replace HG := HG.trans (hb.mono HG.size); replace HB := HB.below hb; replace l0 := (hb.cell (p := ⟨lb, lo, none⟩) hlb).trans l0; replace l1 := (hb.cell (p := ⟨lb, lo + 1, none⟩) hlb).trans l1; replace hlb := Nat.lt_of_lt_of_le hlb hb.size; clear hb; obtain ⟨c0, c1, c2, c3, c4⟩ := HB.cells) | (go_at_call 19; refine (gr_below (wide_any _ _ _ _ _ h0 h1 d0 d1 s0 s1 _)).mono ?_; rw [hk, hw]; rintro r w3 ⟨rfl, hb⟩; replace HG := HG.trans (hb.mono HG.size); replace HB := HB.below hb; replace l0 := (hb.cell (p := ⟨lb, lo, none⟩) hlb).trans l0; replace l1 := (hb.cell (p := ⟨lb, lo + 1, none⟩) hlb).trans l1; replace hlb := Nat.lt_of_lt_of_le hlb hb.size; clear hb; obtain ⟨c0, c1, c2, c3, c4⟩ := HB.cells) | (go_at_call 8; refine (alive_any _).mono ?_; rintro r w3 ⟨rfl, hb⟩; replace HG := HG.trans (hb.mono HG.size); replace HB := HB.below hb; replace l0 := (hb.cell (p := ⟨lb, lo, none⟩) hlb).trans l0; replace l1 := (hb.cell (p := ⟨lb, lo + 1, none⟩) hlb).trans l1; replace hlb := Nat.lt_of_lt_of_le hlb hb.size; clear hb; obtain ⟨c0, c1, c2, c3, c4⟩ := HB.cells))
  go_returns
  exact ⟨rfl, HG⟩
set_option maxHeartbeats 16000000 in
theorem sound_5_2_0_f (o d s f i : Int) (h0 : 0 ≤ o) (h1 : o ≤ 255) (d0 : 0 ≤ d) (d1 : d ≤ 255) (s0 : 0 ≤ s) (s1 : s ≤ 255) (hk : kV o d s f i = 5) (x y : Int) (hl : rdL (kV o d s f i) o d s = [x, y]) (hx : decide (11 ≤ x) = false) (hy : decide (11 ≤ y) = false) (hxy : decide (y ≤ x) = false) (hz : szK (kV o d s f i) o = 0) (hw : wideB (kV o d s f i) o = false) (hd : decide (10 ≤ wrV (kV o d s f i) d) = false) (hr : kV o d s f i ≠ 0 → d < 11 ∧ s < 11) (w : World) : Calls Try.prog 6 #[ins o d s f i] w fun e w' => e = .returned (.bool true) ∧ Below w.heap.size w w' := by
  rw [hk] at hl hz hw hd hr
  have hwb : wrB 5 = false := by decide
  have hw0 : wrV 5 d = 0 := by simp [wrV]
  have q1 : decide (d < 11) = true := by simpa using (hr (by decide)).1
  have q2 : decide (s < 11) = true := by simpa using (hr (by decide)).2
  clear hr
  go_enter Try.func6, Try.ntmps6
  go_upto_region 1 with fail
  have HG : Below w.heap.size w (w.alloc (Obj.cells #[.int .u8 o, .int .u8 d, .int .u8 s, .int .i16 f, .int .i32 i] 24)) := (Below.refl _ w).alloc (Nat.le_refl _) _
  have HB := At5.new w o d s f i
  generalize (w.alloc (Obj.cells #[.int .u8 o, .int .u8 d, .int .u8 s, .int .i16 f, .int .i32 i] 24)) = W at HG HB ⊢
  generalize hBs : w.heap.size = B at HB ⊢
  obtain ⟨c0, c1, c2, c3, c4⟩ := HB.cells
  go_upto_region 3 with (first | (go_at_call 13; refine (gr_below (kind_any _ _ _ _ _ h0 h1 d0 d1 s0 s1 _)).mono ?_; rw [hk]; rintro r w1 ⟨rfl, hb⟩; replace HG := HG.trans (hb.mono HG.size); replace HB := HB.below hb; clear hb; obtain ⟨c0, c1, c2, c3, c4⟩ := HB.cells) | (go_at_call 24; refine (reads_any _ _ _ _ _ h0 h1 d0 d1 s0 s1 _).mono ?_; rw [hk, hl]; rintro r w2 ⟨v, rfl, hv, hb⟩; replace HG := HG.trans (hb.mono HG.size); replace HB := HB.below hb; clear hb; obtain ⟨c0, c1, c2, c3, c4⟩ := HB.cells))
  obtain ⟨lb, lo, lc, rfl, hlc⟩ := bytes_some hv
  have hlb : lb < w2.heap.size := by
    rcases hv with ⟨_, e⟩ | ⟨b', off', cap', e, hb', _⟩
    · cases e
    · cases e; exact hb'
  have l0 : w2.cell? ⟨lb, lo, none⟩ = some (.int .u8 x) := by simpa using hlc 0 (by simp)
  have l1 : w2.cell? ⟨lb, lo + 1, none⟩ = some (.int .u8 y) := by simpa using hlc 1 (by simp)
  clear hv hlc
  go_wp2_with (first | (go_at_call 21; refine (gr_below (writes_any _ _ _ _ _ h0 h1 d0 d1 s0 s1 _)).mono ?_; rw [hk]; rintro r w3 ⟨rfl, hb⟩; replace HG := HG.trans (hb.mono HG.size); replace HB := HB.below hb; replace l0 := (hb.cell (p := ⟨lb, lo, none⟩) hlb).trans l0; replace l1 := (hb.cell (p := ⟨lb, lo + 1, none⟩) hlb).trans l1; replace hlb := Nat.lt_of_lt_of_le hlb hb.size; clear hb; obtain ⟨c0, c1, c2, c3, c4⟩ := HB.cells) | (go_at_call 17; refine (gr_below (isize_any _ _ _ _ _ h0 h1 d0 d1 s0 s1 _)).mono ?_; rw [hk, hz]; rintro r w3 ⟨rfl, hb⟩; replace HG := HG.trans (hb.mono HG.size); replace HB := HB.below hb; replace l0 := (hb.cell (p := ⟨lb, lo, none⟩) hlb).trans l0; replace l1 := (hb.cell (p := ⟨lb, lo + 1, none⟩) hlb).trans l1; replace hlb := Nat.lt_of_lt_of_le hlb hb.size; clear hb; obtain ⟨c0, c1, c2, c3, c4⟩ := HB.cells) | (go_at_call 19; refine (gr_below (wide_any _ _ _ _ _ h0 h1 d0 d1 s0 s1 _)).mono ?_; rw [hk, hw]; rintro r w3 ⟨rfl, hb⟩; replace HG := HG.trans (hb.mono HG.size); replace HB := HB.below hb; replace l0 := (hb.cell (p := ⟨lb, lo, none⟩) hlb).trans l0; replace l1 := (hb.cell (p := ⟨lb, lo + 1, none⟩) hlb).trans l1; replace hlb := Nat.lt_of_lt_of_le hlb hb.size; clear hb; obtain ⟨c0, c1, c2, c3, c4⟩ := HB.cells) | (go_at_call 8; refine (alive_any _).mono ?_; rintro r w3 ⟨rfl, hb⟩; replace HG := HG.trans (hb.mono HG.size); replace HB := HB.below hb; replace l0 := (hb.cell (p := ⟨lb, lo, none⟩) hlb).trans l0; replace l1 := (hb.cell (p := ⟨lb, lo + 1, none⟩) hlb).trans l1; replace hlb := Nat.lt_of_lt_of_le hlb hb.size; clear hb; obtain ⟨c0, c1, c2, c3, c4⟩ := HB.cells))
  refine wp_loop_rounds 3 ?_
  rw [rounds_succ]
  go_upto_region 10 with (first | (go_at_call 21; refine (gr_below (writes_any _ _ _ _ _ h0 h1 d0 d1 s0 s1 _)).mono ?_; rw [hk]; rintro r w3 ⟨rfl, hb⟩; replace HG := HG.trans (hb.mono HG.size); replace HB := HB.below hb; replace l0 := (hb.cell (p := ⟨lb, lo, none⟩) hlb).trans l0; replace l1 := (hb.cell (p := ⟨lb, lo + 1, none⟩) hlb).trans l1; replace hlb := Nat.lt_of_lt_of_le hlb hb.size; clear hb; obtain ⟨c0, c1, c2, c3, c4⟩ := HB.cells) | (go_at_call 17; refine (gr_below (isize_any _ _ _ _ _ h0 h1 d0 d1 s0 s1 _)).mono ?_; rw [hk, hz]; rintro r w3 ⟨rfl, hb⟩; replace HG := HG.trans (hb.mono HG.size); replace HB := HB.below hb; replace l0 := (hb.cell (p := ⟨lb, lo, none⟩) hlb).trans l0; replace l1 := (hb.cell (p := ⟨lb, lo + 1, none⟩) hlb).trans l1; replace hlb := Nat.lt_of_lt_of_le hlb hb.size; clear hb; obtain ⟨c0, c1, c2, c3, c4⟩ := HB.cells) | (go_at_call 19; refine (gr_below (wide_any _ _ _ _ _ h0 h1 d0 d1 s0 s1 _)).mono ?_; rw [hk, hw]; rintro r w3 ⟨rfl, hb⟩; replace HG := HG.trans (hb.mono HG.size); replace HB := HB.below hb; replace l0 := (hb.cell (p := ⟨lb, lo, none⟩) hlb).trans l0; replace l1 := (hb.cell (p := ⟨lb, lo + 1, none⟩) hlb).trans l1; replace hlb := Nat.lt_of_lt_of_le hlb hb.size; clear hb; obtain ⟨c0, c1, c2, c3, c4⟩ := HB.cells) | (go_at_call 8; refine (alive_any _).mono ?_; rintro r w3 ⟨rfl, hb⟩; replace HG := HG.trans (hb.mono HG.size); replace HB := HB.below hb; replace l0 := (hb.cell (p := ⟨lb, lo, none⟩) hlb).trans l0; replace l1 := (hb.cell (p := ⟨lb, lo + 1, none⟩) hlb).trans l1; replace hlb := Nat.lt_of_lt_of_le hlb hb.size; clear hb; obtain ⟨c0, c1, c2, c3, c4⟩ := HB.cells))
  go_quiet (fail)
  replace HG : Below w.heap.size w (_ : World) := HG.trans (below_n _ nq)
  replace HB := HB.below (below_n _ nq)
  replace l0 := ((below_n (B := _) _ nq).cell (p := ⟨lb, lo, none⟩) hlb).trans l0
  replace l1 := ((below_n (B := _) _ nq).cell (p := ⟨lb, lo + 1, none⟩) hlb).trans l1
  replace hlb : lb < (World.drewN _ nq).heap.size := hlb
  generalize (World.drewN _ nq) = V0 at HG HB l0 l1 hlb ⊢
  clear c0 c1 c2 c3 c4
  obtain ⟨c0, c1, c2, c3, c4⟩ := HB.cells
  go_wp2_with (first | (go_at_call 21; refine (gr_below (writes_any _ _ _ _ _ h0 h1 d0 d1 s0 s1 _)).mono ?_; rw [hk]; rintro r w3 ⟨rfl, hb⟩; replace HG := HG.trans (hb.mono HG.size); replace HB := HB.below hb; replace l0 := (hb.cell (p := ⟨lb, lo, none⟩) hlb).trans l0; replace l1 := (hb.cell (p := ⟨lb, lo + 1, none⟩) hlb).trans l1; replace hlb := Nat.lt_of_lt_of_le hlb hb.size; clear hb; obtain ⟨c0, c1, c2, c3, c4⟩ := HB.cells) | (go_at_call 17; refine (gr_below (isize_any _ _ _ _ _ h0 h1 d0 d1 s0 s1 _)).mono ?_; rw [hk, hz]; rintro r w3 ⟨rfl, hb⟩; replace HG := HG.trans (hb.mono HG.size); replace HB := HB.below hb; replace l0 := (hb.cell (p := ⟨lb, lo, none⟩) hlb).trans l0; replace l1 := (hb.cell (p := ⟨lb, lo + 1, none⟩) hlb).trans l1; replace hlb := Nat.lt_of_lt_of_le hlb hb.size; clear hb; obtain ⟨c0, c1, c2, c3, c4⟩ := HB.cells) | (go_at_call 19; refine (gr_below (wide_any _ _ _ _ _ h0 h1 d0 d1 s0 s1 _)).mono ?_; rw [hk, hw]; rintro r w3 ⟨rfl, hb⟩; replace HG := HG.trans (hb.mono HG.size); replace HB := HB.below hb; replace l0 := (hb.cell (p := ⟨lb, lo, none⟩) hlb).trans l0; replace l1 := (hb.cell (p := ⟨lb, lo + 1, none⟩) hlb).trans l1; replace hlb := Nat.lt_of_lt_of_le hlb hb.size; clear hb; obtain ⟨c0, c1, c2, c3, c4⟩ := HB.cells) | (go_at_call 8; refine (alive_any _).mono ?_; rintro r w3 ⟨rfl, hb⟩; replace HG := HG.trans (hb.mono HG.size); replace HB := HB.below hb; replace l0 := (hb.cell (p := ⟨lb, lo, none⟩) hlb).trans l0; replace l1 := (hb.cell (p := ⟨lb, lo + 1, none⟩) hlb).trans l1; replace hlb := Nat.lt_of_lt_of_le hlb hb.size; clear hb; obtain ⟨c0, c1, c2, c3, c4⟩ := HB.cells))
  rw [rounds_succ]
  go_upto_region 10 with (first | (go_at_call 21; refine (gr_below (writes_any _ _ _ _ _ h0 h1 d0 d1 s0 s1 _)).mono ?_; rw [hk]; rintro r w3 ⟨rfl, hb⟩; replace HG := HG.trans (hb.mono HG.size); replace HB := HB.below hb; replace l0 := (hb.cell (p := ⟨lb, lo, none⟩) hlb).trans l0; replace l1 := (hb.cell (p := ⟨lb, lo + 1, none⟩) hlb).trans l1; replace hlb := Nat.lt_of_lt_of_le hlb hb.size; clear hb; obtain ⟨c0, c1, c2, c3, c4⟩ := HB.cells) | (go_at_call 17; refine (gr_below (isize_any _ _ _ _ _ h0 h1 d0 d1 s0 s1 _)).mono ?_; rw [hk, hz]; rintro r w3 ⟨rfl, hb⟩; replace HG := HG.trans (hb.mono HG.size); replace HB := HB.below hb; replace l0 := (hb.cell (p := ⟨lb, lo, none⟩) hlb).trans l0; replace l1 := (hb.cell (p := ⟨lb, lo + 1, none⟩) hlb).trans l1; replace hlb := Nat.lt_of_lt_of_le hlb hb.size; clear hb; obtain ⟨c0, c1, c2, c3, c4⟩ := HB.cells) | (go_at_call 19; refine (gr_below (wide_any _ _ _ _ _ h0 h1 d0 d1 s0 s1 _)).mono ?_; rw [hk, hw]; rintro r w3 ⟨rfl, hb⟩; replace HG := HG.trans (hb.mono HG.size); replace HB := HB.below hb; replace l0 := (hb.cell (p := ⟨lb, lo, none⟩) hlb).trans l0; replace l1 := (hb.cell (p := ⟨lb, lo + 1, none⟩) hlb).trans l1; replace hlb := Nat.lt_of_lt_of_le hlb hb.size; clear hb; obtain ⟨c0, c1, c2, c3, c4⟩ := HB.cells) | (go_at_call 8; refine (alive_any _).mono ?_; rintro r w3 ⟨rfl, hb⟩; replace HG := HG.trans (hb.mono HG.size); replace HB := HB.below hb; replace l0 := (hb.cell (p := ⟨lb, lo, none⟩) hlb).trans l0; replace l1 := (hb.cell (p := ⟨lb, lo + 1, none⟩) hlb).trans l1; replace hlb := Nat.lt_of_lt_of_le hlb hb.size; clear hb; obtain ⟨c0, c1, c2, c3, c4⟩ := HB.cells))
  go_quiet (fail)
  replace HG : Below w.heap.size w (_ : World) := HG.trans (below_n _ nq)
  replace HB := HB.below (below_n _ nq)
  replace l0 := ((below_n (B := _) _ nq).cell (p := ⟨lb, lo, none⟩) hlb).trans l0
  replace l1 := ((below_n (B := _) _ nq).cell (p := ⟨lb, lo + 1, none⟩) hlb).trans l1
  replace hlb : lb < (World.drewN _ nq).heap.size := hlb
  generalize (World.drewN _ nq) = V1 at HG HB l0 l1 hlb ⊢
  clear c0 c1 c2 c3 c4
  obtain ⟨c0, c1, c2, c3, c4⟩ := HB.cells
  go_wp2_with (first | (go_at_call 21; refine (gr_below (writes_any _ _ _ _ _ h0 h1 d0 d1 s0 s1 _)).mono ?_; rw [hk]; rintro r w3 ⟨rfl, hb⟩; replace HG := HG.trans (hb.mono HG.size); replace HB := HB.below hb; replace l0 := (hb.cell (p := ⟨lb, lo, none⟩) hlb).trans l0; replace l1 := (hb.cell (p := ⟨lb, lo + 1, none⟩) hlb).trans l1; replace hlb := Nat.lt_of_lt_of_le hlb hb.size; clear hb; obtain ⟨c0, c1, c2, c3, c4⟩ := HB.cells) | (go_at_call 17; refine (gr_below (isize_any _ _ _ _ _ h0 h1 d0 d1 s0 s1 _)).mono ?_; rw [hk, hz]; rintro r w3 ⟨rfl, hb⟩; replace HG := HG.trans (hb.mono HG.size); replace HB := HB.below hb; replace l0 := (hb.cell (p := ⟨lb, lo, none⟩) hlb).trans l0; replace l1 := (hb.cell (p := ⟨lb, lo + 1, none⟩) hlb).trans l1; replace hlb := Nat.lt_of_lt_of_le hlb hb.size; clear hb; obtain ⟨c0, c1, c2, c3, c4⟩ := HB.cells) | (go_at_call 19; refine (gr_below (wide_any _ _ _ _ _ h0 h1 d0 d1 s0 s1 _)).mono ?_; rw [hk, hw]; rintro r w3 ⟨rfl, hb⟩; replace HG := HG.trans (hb.mono HG.size); replace HB := HB.below hb; replace l0 := (hb.cell (p := ⟨lb, lo, none⟩) hlb).trans l0; replace l1 := (hb.cell (p := ⟨lb, lo + 1, none⟩) hlb).trans l1; replace hlb := Nat.lt_of_lt_of_le hlb hb.size; clear hb; obtain ⟨c0, c1, c2, c3, c4⟩ := HB.cells) | (go_at_call 8; refine (alive_any _).mono ?_; rintro r w3 ⟨rfl, hb⟩; replace HG := HG.trans (hb.mono HG.size); replace HB := HB.below hb; replace l0 := (hb.cell (p := ⟨lb, lo, none⟩) hlb).trans l0; replace l1 := (hb.cell (p := ⟨lb, lo + 1, none⟩) hlb).trans l1; replace hlb := Nat.lt_of_lt_of_le hlb hb.size; clear hb; obtain ⟨c0, c1, c2, c3, c4⟩ := HB.cells))
  rw [rounds_succ]
  go_wp2_with (first | (go_at_call 21; refine (gr_below (writes_any _ _ _ _ _ h0 h1 d0 d1 s0 s1 _)).mono ?_; rw [hk]; rintro r w3 ⟨rfl, hb⟩; replace HG := HG.trans (hb.mono HG.size); replace HB := HB.below hb; replace l0 := (hb.cell (p := ⟨lb, lo, none⟩) hlb).trans l0; replace l1 := (hb.cell (p := ⟨lb, lo + 1, none⟩) hlb).trans l1; replace hlb := Nat.lt_of_lt_of_le hlb hb.size; clear hb; obtain ⟨c0, c1, c2, c3, c4⟩ := HB.cells) | (go_at_call 17; refine (gr_below (isize_any _ _ _ _ _ h0 h1 d0 d1 s0 s1 _)).mono ?_; rw [hk, hz]; rintro r w3 ⟨rfl, hb⟩; replace HG := HG.trans (hb.mono HG.size); replace HB := HB.below hb; replace l0 := (hb.cell (p := ⟨lb, lo, none⟩) hlb).trans l0; replace l1 := (hb.cell (p := ⟨lb, lo + 1, none⟩) hlb).trans l1; replace hlb := Nat.lt_of_lt_of_le hlb hb.size; clear hb; obtain ⟨c0, c1, c2, c3, c4⟩ := HB.cells) | (go_at_call 19; refine (gr_below (wide_any _ _ _ _ _ h0 h1 d0 d1 s0 s1 _)).mono ?_; rw [hk, hw]; rintro r w3 ⟨rfl, hb⟩; replace HG := HG.trans (hb.mono HG.size); replace HB := HB.below hb; replace l0 := (hb.cell (p := ⟨lb, lo, none⟩) hlb).trans l0; replace l1 := (hb.cell (p := ⟨lb, lo + 1, none⟩) hlb).trans l1; replace hlb := Nat.lt_of_lt_of_le hlb hb.size; clear hb; obtain ⟨c0, c1, c2, c3, c4⟩ := HB.cells) | (go_at_call 8; refine (alive_any _).mono ?_; rintro r w3 ⟨rfl, hb⟩; replace HG := HG.trans (hb.mono HG.size); replace HB := HB.below hb; replace l0 := (hb.cell (p := ⟨lb, lo, none⟩) hlb).trans l0; replace l1 := (hb.cell (p := ⟨lb, lo + 1, none⟩) hlb).trans l1; replace hlb := Nat.lt_of_lt_of_le hlb hb.size; clear hb; obtain ⟨c0, c1, c2, c3, c4⟩ := HB.cells))
  go_returns
  exact ⟨rfl, HG⟩
set_option maxHeartbeats 16000000 in
theorem sound_6_0_0_f (o d s f i : Int) (h0 : 0 ≤ o) (h1 : o ≤ 255) (d0 : 0 ≤ d) (d1 : d ≤ 255) (s0 : 0 ≤ s) (s1 : s ≤ 255) (hk : kV o d s f i = 6) (hl : rdL (kV o d s f i) o d s = []) (hz : szK (kV o d s f i) o = 0) (hw : wideB (kV o d s f i) o = false) (hd : decide (10 ≤ wrV (kV o d s f i) d) = false) (hr : kV o d s f i ≠ 0 → d < 11 ∧ s < 11) (w : World) : Calls Try.prog 6 #[ins o d s f i] w fun e w' => e = .returned (.bool true) ∧ Below w.heap.size w w' := by
  rw [hk] at hl hz hw hd hr
  have hwb : wrB 6 = true := by decide
  have hw0 : wrV 6 d = 0 := by simp [wrV]
  have q1 : decide (d < 11) = true := by simpa using (hr (by decide)).1
  have q2 : decide (s < 11) = true := by simpa using (hr (by decide)).2
  clear hr
  go_enter Try.func6, Try.ntmps6
  go_upto_region 1 with fail
  have HG : Below w.heap.size w (w.alloc (Obj.cells #[.int .u8 o, .int .u8 d, .int .u8 s, .int .i16 f, .int .i32 i] 24)) := (Below.refl _ w).alloc (Nat.le_refl _) _
  have HB := At5.new w o d s f i
  generalize (w.alloc (Obj.cells #[.int .u8 o, .int .u8 d, .int .u8 s, .int .i16 f, .int .i32 i] 24)) = W at HG HB ⊢
  generalize hBs : w.heap.size = B at HB ⊢
  obtain ⟨c0, c1, c2, c3, c4⟩ := HB.cells
  go_upto_region 3 with (first | (go_at_call 13; refine (gr_below (kind_any _ _ _ _ _ h0 h1 d0 d1 s0 s1 _)).mono ?_; rw [hk]; rintro r w1 ⟨rfl, hb⟩; replace HG := HG.trans (hb.mono HG.size); replace HB := HB.below hb; clear hb; obtain ⟨c0, c1, c2, c3, c4⟩ := HB.cells) | (go_at_call 24; refine (reads_any _ _ _ _ _ h0 h1 d0 d1 s0 s1 _).mono ?_; rw [hk, hl]; rintro r w2 ⟨v, rfl, hv, hb⟩; replace HG := HG.trans (hb.mono HG.size); replace HB := HB.below hb; clear hb; obtain ⟨c0, c1, c2, c3, c4⟩ := HB.cells))
  obtain ⟨la, lc, rfl⟩ := bytes_zero hv
  clear hv
  go_wp2_with (first | (go_at_call 21; refine (gr_below (writes_any _ _ _ _ _ h0 h1 d0 d1 s0 s1 _)).mono ?_; rw [hk]; rintro r w3 ⟨rfl, hb⟩; replace HG := HG.trans (hb.mono HG.size); replace HB := HB.below hb; clear hb; obtain ⟨c0, c1, c2, c3, c4⟩ := HB.cells) | (go_at_call 17; refine (gr_below (isize_any _ _ _ _ _ h0 h1 d0 d1 s0 s1 _)).mono ?_; rw [hk, hz]; rintro r w3 ⟨rfl, hb⟩; replace HG := HG.trans (hb.mono HG.size); replace HB := HB.below hb; clear hb; obtain ⟨c0, c1, c2, c3, c4⟩ := HB.cells) | (go_at_call 19; refine (gr_below (wide_any _ _ _ _ _ h0 h1 d0 d1 s0 s1 _)).mono ?_; rw [hk, hw]; rintro r w3 ⟨rfl, hb⟩; replace HG := HG.trans (hb.mono HG.size); replace HB := HB.below hb; clear hb; obtain ⟨c0, c1, c2, c3, c4⟩ := HB.cells) | (go_at_call 8; refine (alive_any _).mono ?_; rintro r w3 ⟨rfl, hb⟩; replace HG := HG.trans (hb.mono HG.size); replace HB := HB.below hb; clear hb; obtain ⟨c0, c1, c2, c3, c4⟩ := HB.cells))
  refine wp_loop_rounds 1 ?_
  rw [rounds_succ]
  go_wp2_with (first | (go_at_call 21; refine (gr_below (writes_any _ _ _ _ _ h0 h1 d0 d1 s0 s1 _)).mono ?_; rw [hk]; rintro r w3 ⟨rfl, hb⟩; replace HG := HG.trans (hb.mono HG.size); replace HB := HB.below hb; clear hb; obtain ⟨c0, c1, c2, c3, c4⟩ := HB.cells) | (go_at_call 17; refine (gr_below (isize_any _ _ _ _ _ h0 h1 d0 d1 s0 s1 _)).mono ?_; rw [hk, hz]; rintro r w3 ⟨rfl, hb⟩; replace HG := HG.trans (hb.mono HG.size); replace HB := HB.below hb; clear hb; obtain ⟨c0, c1, c2, c3, c4⟩ := HB.cells) | (go_at_call 19; refine (gr_below (wide_any _ _ _ _ _ h0 h1 d0 d1 s0 s1 _)).mono ?_; rw [hk, hw]; rintro r w3 ⟨rfl, hb⟩; replace HG := HG.trans (hb.mono HG.size); replace HB := HB.below hb; clear hb; obtain ⟨c0, c1, c2, c3, c4⟩ := HB.cells) | (go_at_call 8; refine (alive_any _).mono ?_; rintro r w3 ⟨rfl, hb⟩; replace HG := HG.trans (hb.mono HG.size); replace HB := HB.below hb; clear hb; obtain ⟨c0, c1, c2, c3, c4⟩ := HB.cells))
  go_returns
  exact ⟨rfl, HG⟩
set_option maxHeartbeats 16000000 in
theorem sound_7_0_0_f (o d s f i : Int) (h0 : 0 ≤ o) (h1 : o ≤ 255) (d0 : 0 ≤ d) (d1 : d ≤ 255) (s0 : 0 ≤ s) (s1 : s ≤ 255) (hk : kV o d s f i = 7) (hl : rdL (kV o d s f i) o d s = []) (hz : szK (kV o d s f i) o = 0) (hw : wideB (kV o d s f i) o = false) (hd : decide (10 ≤ wrV (kV o d s f i) d) = false) (hr : kV o d s f i ≠ 0 → d < 11 ∧ s < 11) (w : World) : Calls Try.prog 6 #[ins o d s f i] w fun e w' => e = .returned (.bool true) ∧ Below w.heap.size w w' := by
  rw [hk] at hl hz hw hd hr
  have hwb : wrB 7 = true := by decide
  have hw0 : wrV 7 d = 0 := by simp [wrV]
  have q1 : decide (d < 11) = true := by simpa using (hr (by decide)).1
  have q2 : decide (s < 11) = true := by simpa using (hr (by decide)).2
  clear hr
  go_enter Try.func6, Try.ntmps6
  go_upto_region 1 with fail
  have HG : Below w.heap.size w (w.alloc (Obj.cells #[.int .u8 o, .int .u8 d, .int .u8 s, .int .i16 f, .int .i32 i] 24)) := (Below.refl _ w).alloc (Nat.le_refl _) _
  have HB := At5.new w o d s f i
  generalize (w.alloc (Obj.cells #[.int .u8 o, .int .u8 d, .int .u8 s, .int .i16 f, .int .i32 i] 24)) = W at HG HB ⊢
  generalize hBs : w.heap.size = B at HB ⊢
  obtain ⟨c0, c1, c2, c3, c4⟩ := HB.cells
  go_upto_region 3 with (first | (go_at_call 13; refine (gr_below (kind_any _ _ _ _ _ h0 h1 d0 d1 s0 s1 _)).mono ?_; rw [hk]; rintro r w1 ⟨rfl, hb⟩; replace HG := HG.trans (hb.mono HG.size); replace HB := HB.below hb; clear hb; obtain ⟨c0, c1, c2, c3, c4⟩ := HB.cells) | (go_at_call 24; refine (reads_any _ _ _ _ _ h0 h1 d0 d1 s0 s1 _).mono ?_; rw [hk, hl]; rintro r w2 ⟨v, rfl, hv, hb⟩; replace HG := HG.trans (hb.mono HG.size); replace HB := HB.below hb; clear hb; obtain ⟨c0, c1, c2, c3, c4⟩ := HB.cells))
  obtain ⟨la, lc, rfl⟩ := bytes_zero hv
  clear hv
  go_wp2_with (first | (go_at_call 21; refine (gr_below (writes_any _ _ _ _ _ h0 h1 d0 d1 s0 s1 _)).mono ?_; rw [hk]; rintro r w3 ⟨rfl, hb⟩; replace HG := HG.trans (hb.mono HG.size); replace HB := HB.below hb; clear hb; obtain ⟨c0, c1, c2, c3, c4⟩ := HB.cells) | (go_at_call 17; refine (gr_below (isize_any _ _ _ _ _ h0 h1 d0 d1 s0 s1 _)).mono ?_; rw [hk, hz]; rintro r w3 ⟨rfl, hb⟩; replace HG := HG.trans (hb.mono HG.size); replace HB := HB.below hb; clear hb; obtain ⟨c0, c1, c2, c3, c4⟩ := HB.cells) | (go_at_call 19; refine (gr_below (wide_any _ _ _ _ _ h0 h1 d0 d1 s0 s1 _)).mono ?_; rw [hk, hw]; rintro r w3 ⟨rfl, hb⟩; replace HG := HG.trans (hb.mono HG.size); replace HB := HB.below hb; clear hb; obtain ⟨c0, c1, c2, c3, c4⟩ := HB.cells) | (go_at_call 8; refine (alive_any _).mono ?_; rintro r w3 ⟨rfl, hb⟩; replace HG := HG.trans (hb.mono HG.size); replace HB := HB.below hb; clear hb; obtain ⟨c0, c1, c2, c3, c4⟩ := HB.cells))
  refine wp_loop_rounds 1 ?_
  rw [rounds_succ]
  go_wp2_with (first | (go_at_call 21; refine (gr_below (writes_any _ _ _ _ _ h0 h1 d0 d1 s0 s1 _)).mono ?_; rw [hk]; rintro r w3 ⟨rfl, hb⟩; replace HG := HG.trans (hb.mono HG.size); replace HB := HB.below hb; clear hb; obtain ⟨c0, c1, c2, c3, c4⟩ := HB.cells) | (go_at_call 17; refine (gr_below (isize_any _ _ _ _ _ h0 h1 d0 d1 s0 s1 _)).mono ?_; rw [hk, hz]; rintro r w3 ⟨rfl, hb⟩; replace HG := HG.trans (hb.mono HG.size); replace HB := HB.below hb; clear hb; obtain ⟨c0, c1, c2, c3, c4⟩ := HB.cells) | (go_at_call 19; refine (gr_below (wide_any _ _ _ _ _ h0 h1 d0 d1 s0 s1 _)).mono ?_; rw [hk, hw]; rintro r w3 ⟨rfl, hb⟩; replace HG := HG.trans (hb.mono HG.size); replace HB := HB.below hb; clear hb; obtain ⟨c0, c1, c2, c3, c4⟩ := HB.cells) | (go_at_call 8; refine (alive_any _).mono ?_; rintro r w3 ⟨rfl, hb⟩; replace HG := HG.trans (hb.mono HG.size); replace HB := HB.below hb; clear hb; obtain ⟨c0, c1, c2, c3, c4⟩ := HB.cells))
  go_returns
  exact ⟨rfl, HG⟩
set_option maxHeartbeats 16000000 in
theorem sound_9_0_0_f (o d s f i : Int) (h0 : 0 ≤ o) (h1 : o ≤ 255) (d0 : 0 ≤ d) (d1 : d ≤ 255) (s0 : 0 ≤ s) (s1 : s ≤ 255) (hk : kV o d s f i = 9) (hl : rdL (kV o d s f i) o d s = []) (hz : szK (kV o d s f i) o = 0) (hw : wideB (kV o d s f i) o = false) (hd : decide (10 ≤ wrV (kV o d s f i) d) = false) (hr : kV o d s f i ≠ 0 → d < 11 ∧ s < 11) (w : World) : Calls Try.prog 6 #[ins o d s f i] w fun e w' => e = .returned (.bool true) ∧ Below w.heap.size w w' := by
  rw [hk] at hl hz hw hd hr
  have hwb : wrB 9 = true := by decide
  have q1 : decide (d < 11) = true := by simpa using (hr (by decide)).1
  have q2 : decide (s < 11) = true := by simpa using (hr (by decide)).2
  clear hr
  go_enter Try.func6, Try.ntmps6
  go_upto_region 1 with fail
  have HG : Below w.heap.size w (w.alloc (Obj.cells #[.int .u8 o, .int .u8 d, .int .u8 s, .int .i16 f, .int .i32 i] 24)) := (Below.refl _ w).alloc (Nat.le_refl _) _
  have HB := At5.new w o d s f i
  generalize (w.alloc (Obj.cells #[.int .u8 o, .int .u8 d, .int .u8 s, .int .i16 f, .int .i32 i] 24)) = W at HG HB ⊢
  generalize hBs : w.heap.size = B at HB ⊢
  obtain ⟨c0, c1, c2, c3, c4⟩ := HB.cells
  go_upto_region 3 with (first | (go_at_call 13; refine (gr_below (kind_any _ _ _ _ _ h0 h1 d0 d1 s0 s1 _)).mono ?_; rw [hk]; rintro r w1 ⟨rfl, hb⟩; replace HG := HG.trans (hb.mono HG.size); replace HB := HB.below hb; clear hb; obtain ⟨c0, c1, c2, c3, c4⟩ := HB.cells) | (go_at_call 24; refine (reads_any _ _ _ _ _ h0 h1 d0 d1 s0 s1 _).mono ?_; rw [hk, hl]; rintro r w2 ⟨v, rfl, hv, hb⟩; replace HG := HG.trans (hb.mono HG.size); replace HB := HB.below hb; clear hb; obtain ⟨c0, c1, c2, c3, c4⟩ := HB.cells))
  obtain ⟨la, lc, rfl⟩ := bytes_zero hv
  clear hv
  go_wp2_with (first | (go_at_call 21; refine (gr_below (writes_any _ _ _ _ _ h0 h1 d0 d1 s0 s1 _)).mono ?_; rw [hk]; rintro r w3 ⟨rfl, hb⟩; replace HG := HG.trans (hb.mono HG.size); replace HB := HB.below hb; clear hb; obtain ⟨c0, c1, c2, c3, c4⟩ := HB.cells) | (go_at_call 17; refine (gr_below (isize_any _ _ _ _ _ h0 h1 d0 d1 s0 s1 _)).mono ?_; rw [hk, hz]; rintro r w3 ⟨rfl, hb⟩; replace HG := HG.trans (hb.mono HG.size); replace HB := HB.below hb; clear hb; obtain ⟨c0, c1, c2, c3, c4⟩ := HB.cells) | (go_at_call 19; refine (gr_below (wide_any _ _ _ _ _ h0 h1 d0 d1 s0 s1 _)).mono ?_; rw [hk, hw]; rintro r w3 ⟨rfl, hb⟩; replace HG := HG.trans (hb.mono HG.size); replace HB := HB.below hb; clear hb; obtain ⟨c0, c1, c2, c3, c4⟩ := HB.cells) | (go_at_call 8; refine (alive_any _).mono ?_; rintro r w3 ⟨rfl, hb⟩; replace HG := HG.trans (hb.mono HG.size); replace HB := HB.below hb; clear hb; obtain ⟨c0, c1, c2, c3, c4⟩ := HB.cells))
  refine wp_loop_rounds 1 ?_
  rw [rounds_succ]
  go_wp2_with (first | (go_at_call 21; refine (gr_below (writes_any _ _ _ _ _ h0 h1 d0 d1 s0 s1 _)).mono ?_; rw [hk]; rintro r w3 ⟨rfl, hb⟩; replace HG := HG.trans (hb.mono HG.size); replace HB := HB.below hb; clear hb; obtain ⟨c0, c1, c2, c3, c4⟩ := HB.cells) | (go_at_call 17; refine (gr_below (isize_any _ _ _ _ _ h0 h1 d0 d1 s0 s1 _)).mono ?_; rw [hk, hz]; rintro r w3 ⟨rfl, hb⟩; replace HG := HG.trans (hb.mono HG.size); replace HB := HB.below hb; clear hb; obtain ⟨c0, c1, c2, c3, c4⟩ := HB.cells) | (go_at_call 19; refine (gr_below (wide_any _ _ _ _ _ h0 h1 d0 d1 s0 s1 _)).mono ?_; rw [hk, hw]; rintro r w3 ⟨rfl, hb⟩; replace HG := HG.trans (hb.mono HG.size); replace HB := HB.below hb; clear hb; obtain ⟨c0, c1, c2, c3, c4⟩ := HB.cells) | (go_at_call 8; refine (alive_any _).mono ?_; rintro r w3 ⟨rfl, hb⟩; replace HG := HG.trans (hb.mono HG.size); replace HB := HB.below hb; clear hb; obtain ⟨c0, c1, c2, c3, c4⟩ := HB.cells))
  go_returns
  exact ⟨rfl, HG⟩
set_option maxHeartbeats 16000000 in
theorem sound_10_0_0_f (o d s f i : Int) (h0 : 0 ≤ o) (h1 : o ≤ 255) (d0 : 0 ≤ d) (d1 : d ≤ 255) (s0 : 0 ≤ s) (s1 : s ≤ 255) (hk : kV o d s f i = 10) (hl : rdL (kV o d s f i) o d s = []) (hz : szK (kV o d s f i) o = 0) (hw : wideB (kV o d s f i) o = false) (hd : decide (10 ≤ wrV (kV o d s f i) d) = false) (hr : kV o d s f i ≠ 0 → d < 11 ∧ s < 11) (w : World) : Calls Try.prog 6 #[ins o d s f i] w fun e w' => e = .returned (.bool true) ∧ Below w.heap.size w w' := by
  rw [hk] at hl hz hw hd hr
  have hwb : wrB 10 = false := by decide
  have hw0 : wrV 10 d = 0 := by simp [wrV]
  have q1 : decide (d < 11) = true := by simpa using (hr (by decide)).1
  have q2 : decide (s < 11) = true := by simpa using (hr (by decide)).2
  clear hr
  go_enter Try.func6, Try.ntmps6
  go_upto_region 1 with fail
  have HG : Below w.heap.size w (w.alloc (Obj.cells #[.int .u8 o, .int .u8 d, .int .u8 s, .int .i16 f, .int .i32 i] 24)) := (Below.refl _ w).alloc (Nat.le_refl _) _
  have HB := At5.new w o d s f i
  generalize (w.alloc (Obj.cells #[.int .u8 o, .int .u8 d, .int .u8 s, .int .i16 f, .int .i32 i] 24)) = W at HG HB ⊢
  generalize hBs : w.heap.size = B at HB ⊢
  obtain ⟨c0, c1, c2, c3, c4⟩ := HB.cells
  go_upto_region 3 with (first | (go_at_call 13; refine (gr_below (kind_any _ _ _ _ _ h0 h1 d0 d1 s0 s1 _)).mono ?_; rw [hk]; rintro r w1 ⟨rfl, hb⟩; replace HG := HG.trans (hb.mono HG.size); replace HB := HB.below hb; clear hb; obtain ⟨c0, c1, c2, c3, c4⟩ := HB.cells) | (go_at_call 24; refine (reads_any _ _ _ _ _ h0 h1 d0 d1 s0 s1 _).mono ?_; rw [hk, hl]; rintro r w2 ⟨v, rfl, hv, hb⟩; replace HG := HG.trans (hb.mono HG.size); replace HB := HB.below hb; clear hb; obtain ⟨c0, c1, c2, c3, c4⟩ := HB.cells))
  obtain ⟨la, lc, rfl⟩ := bytes_zero hv
  clear hv
  go_wp2_with (first | (go_at_call 21; refine (gr_below (writes_any _ _ _ _ _ h0 h1 d0 d1 s0 s1 _)).mono ?_; rw [hk]; rintro r w3 ⟨rfl, hb⟩; replace HG := HG.trans (hb.mono HG.size); replace HB := HB.below hb; clear hb; obtain ⟨c0, c1, c2, c3, c4⟩ := HB.cells) | (go_at_call 17; refine (gr_below (isize_any _ _ _ _ _ h0 h1 d0 d1 s0 s1 _)).mono ?_; rw [hk, hz]; rintro r w3 ⟨rfl, hb⟩; replace HG := HG.trans (hb.mono HG.size); replace HB := HB.below hb; clear hb; obtain ⟨c0, c1, c2, c3, c4⟩ := HB.cells) | (go_at_call 19; refine (gr_below (wide_any _ _ _ _ _ h0 h1 d0 d1 s0 s1 _)).mono ?_; rw [hk, hw]; rintro r w3 ⟨rfl, hb⟩; replace HG := HG.trans (hb.mono HG.size); replace HB := HB.below hb; clear hb; obtain ⟨c0, c1, c2, c3, c4⟩ := HB.cells) | (go_at_call 8; refine (alive_any _).mono ?_; rintro r w3 ⟨rfl, hb⟩; replace HG := HG.trans (hb.mono HG.size); replace HB := HB.below hb; clear hb; obtain ⟨c0, c1, c2, c3, c4⟩ := HB.cells))
  refine wp_loop_rounds 1 ?_
  rw [rounds_succ]
  go_wp2_with (first | (go_at_call 21; refine (gr_below (writes_any _ _ _ _ _ h0 h1 d0 d1 s0 s1 _)).mono ?_; rw [hk]; rintro r w3 ⟨rfl, hb⟩; replace HG := HG.trans (hb.mono HG.size); replace HB := HB.below hb; clear hb; obtain ⟨c0, c1, c2, c3, c4⟩ := HB.cells) | (go_at_call 17; refine (gr_below (isize_any _ _ _ _ _ h0 h1 d0 d1 s0 s1 _)).mono ?_; rw [hk, hz]; rintro r w3 ⟨rfl, hb⟩; replace HG := HG.trans (hb.mono HG.size); replace HB := HB.below hb; clear hb; obtain ⟨c0, c1, c2, c3, c4⟩ := HB.cells) | (go_at_call 19; refine (gr_below (wide_any _ _ _ _ _ h0 h1 d0 d1 s0 s1 _)).mono ?_; rw [hk, hw]; rintro r w3 ⟨rfl, hb⟩; replace HG := HG.trans (hb.mono HG.size); replace HB := HB.below hb; clear hb; obtain ⟨c0, c1, c2, c3, c4⟩ := HB.cells) | (go_at_call 8; refine (alive_any _).mono ?_; rintro r w3 ⟨rfl, hb⟩; replace HG := HG.trans (hb.mono HG.size); replace HB := HB.below hb; clear hb; obtain ⟨c0, c1, c2, c3, c4⟩ := HB.cells))
  go_returns
  exact ⟨rfl, HG⟩
set_option maxHeartbeats 16000000 in
theorem sound_8_1_0_f (o d s f i : Int) (h0 : 0 ≤ o) (h1 : o ≤ 255) (d0 : 0 ≤ d) (d1 : d ≤ 255) (s0 : 0 ≤ s) (s1 : s ≤ 255) (hk : kV o d s f i = 8) (x : Int) (hl : rdL (kV o d s f i) o d s = [x]) (hx : decide (11 ≤ x) = false) (hz : szK (kV o d s f i) o = 0) (hw : wideB (kV o d s f i) o = false) (hd : decide (10 ≤ wrV (kV o d s f i) d) = false) (hr : kV o d s f i ≠ 0 → d < 11 ∧ s < 11) (w : World) : Calls Try.prog 6 #[ins o d s f i] w fun e w' => e = .returned (.bool true) ∧ Below w.heap.size w w' := by
  rw [hk] at hl hz hw hd hr
  have hwb : wrB 8 = false := by decide
  have hw0 : wrV 8 d = 0 := by simp [wrV]
  have q1 : decide (d < 11) = true := by simpa using (hr (by decide)).1
  have q2 : decide (s < 11) = true := by simpa using (hr (by decide)).2
  clear hr
  go_enter Try.func6, Try.ntmps6
  go_upto_region 1 with fail
  have HG : Below w.heap.size w (w.alloc (Obj.cells #[.int .u8 o, .int .u8 d, .int .u8 s, .int .i16 f, .int .i32 i] 24)) := (Below.refl _ w).alloc (Nat.le_refl _) _
  have HB := At5.new w o d s f i
  generalize (w.alloc (Obj.cells #[.int .u8 o, .int .u8 d, .int .u8 s, .int .i16 f, .int .i32 i] 24)) = W at HG HB ⊢
  generalize hBs : w.heap.size = B at HB ⊢
  obtain ⟨c0, c1, c2, c3, c4⟩ := HB.cells
  go_upto_region 3 with (first | (go_at_call 13; refine (gr_below (kind_any _ _ _ _ _ h0 h1 d0 d1 s0 s1 _)).mono ?_; rw [hk]; rintro r w1 ⟨rfl, hb⟩; replace HG := HG.trans (hb.mono HG.size); replace HB := HB.below hb; clear hb; obtain ⟨c0, c1, c2, c3, c4⟩ := HB.cells) | (go_at_call 24; refine (reads_any _ _ _ _ _ h0 h1 d0 d1 s0 s1 _).mono ?_; rw [hk, hl]; rintro r w2 ⟨v, rfl, hv, hb⟩; replace HG := HG.trans (hb.mono HG.size); replace HB := HB.below hb; clear hb; obtain ⟨c0, c1, c2, c3, c4⟩ := HB.cells))
  obtain ⟨lb, lo, lc, rfl, hlc⟩ := bytes_some hv
  have hlb : lb < w2.heap.size := by
    rcases hv with ⟨_, e⟩ | ⟨b', off', cap', e, hb', _⟩
    · cases e
    · cases e; exact hb'
  have l0 : w2.cell? ⟨lb, lo, none⟩ = some (.int .u8 x) := by simpa using hlc 0 (by simp)
  clear hv hlc
  go_wp2_with (first | (go_at_call 21; refine (gr_below (writes_any _ _ _ _ _ h0 h1 d0 d1 s0 s1 _)).mono ?_; rw [hk]; rintro r w3 ⟨rfl, hb⟩; replace HG := HG.trans (hb.mono HG.size); replace HB := HB.below hb; replace l0 := (hb.cell (p := ⟨lb, lo, none⟩) hlb).trans l0; replace hlb := Nat.lt_of_lt_of_le hlb hb.size; clear hb; obtain ⟨c0, c1, c2, c3, c4⟩ := HB.cells) | (go_at_call 17; refine (gr_below (isize_any _ _ _ _ _ h0 h1 d0 d1 s0 s1 _)).mono ?_; rw [hk, hz]; rintro r w3 ⟨rfl, hb⟩; replace HG := HG.trans (hb.mono HG.size); replace HB := HB.below hb; replace l0 := (hb.cell (p := ⟨lb, lo, none⟩) hlb).trans l0; replace hlb := Nat.lt_of_lt_of_le hlb hb.size; clear hb; obtain ⟨c0, c1, c2, c3, c4⟩ := HB.cells) | (go_at_call 19; refine (gr_below (wide_any _ _ _ _ _ h0 h1 d0 d1 s0 s1 _)).mono ?_; rw [hk, hw]; rintro r w3 ⟨rfl, hb⟩; replace HG := HG.trans (hb.mono HG.size); replace HB := HB.below hb; replace l0 := (hb.cell (p := ⟨lb, lo, none⟩) hlb).trans l0; replace hlb := Nat.lt_of_lt_of_le hlb hb.size; clear hb; obtain ⟨c0, c1, c2, c3, c4⟩ := HB.cells) | (go_at_call 8; refine (alive_any _).mono ?_; rintro r w3 ⟨rfl, hb⟩; replace HG := HG.trans (hb.mono HG.size); replace HB := HB.below hb; replace l0 := (hb.cell (p := ⟨lb, lo, none⟩) hlb).trans l0; replace hlb := Nat.lt_of_lt_of_le hlb hb.size; clear hb; obtain ⟨c0, c1, c2, c3, c4⟩ := HB.cells))
  refine wp_loop_rounds 2 ?_
  rw [rounds_succ]
  go_upto_region 10 with (first | (go_at_call 21; refine (gr_below (writes_any _ _ _ _ _ h0 h1 d0 d1 s0 s1 _)).mono ?_; rw [hk]; rintro r w3 ⟨rfl, hb⟩; replace HG := HG.trans (hb.mono HG.size); replace HB := HB.below hb; replace l0 := (hb.cell (p := ⟨lb, lo, none⟩) hlb).trans l0; replace hlb := Nat.lt_of_lt_of_le hlb hb.size; clear hb; obtain ⟨c0, c1, c2, c3, c4⟩ := HB.cells) | (go_at_call 17; refine (gr_below (isize_any _ _ _ _ _ h0 h1 d0 d1 s0 s1 _)).mono ?_; rw [hk, hz]; rintro r w3 ⟨rfl, hb⟩; replace HG := HG.trans (hb.mono HG.size); replace HB := HB.below hb; replace l0 := (hb.cell (p := ⟨lb, lo, none⟩) hlb).trans l0; replace hlb := Nat.lt_of_lt_of_le hlb hb.size; clear hb; obtain ⟨c0, c1, c2, c3, c4⟩ := HB.cells) | (go_at_call 19; refine (gr_below (wide_any _ _ _ _ _ h0 h1 d0 d1 s0 s1 _)).mono ?_; rw [hk, hw]; rintro r w3 ⟨rfl, hb⟩; replace HG := HG.trans (hb.mono HG.size); replace HB := HB.below hb; replace l0 := (hb.cell (p := ⟨lb, lo, none⟩) hlb).trans l0; replace hlb := Nat.lt_of_lt_of_le hlb hb.size; clear hb; obtain ⟨c0, c1, c2, c3, c4⟩ := HB.cells) | (go_at_call 8; refine (alive_any _).mono ?_; rintro r w3 ⟨rfl, hb⟩; replace HG := HG.trans (hb.mono HG.size); replace HB := HB.below hb; replace l0 := (hb.cell (p := ⟨lb, lo, none⟩) hlb).trans l0; replace hlb := Nat.lt_of_lt_of_le hlb hb.size; clear hb; obtain ⟨c0, c1, c2, c3, c4⟩ := HB.cells))
  go_quiet (fail)
  replace HG : Below w.heap.size w (_ : World) := HG.trans (below_n _ nq)
  replace HB := HB.below (below_n _ nq)
  replace l0 := ((below_n (B := _) _ nq).cell (p := ⟨lb, lo, none⟩) hlb).trans l0
  replace hlb : lb < (World.drewN _ nq).heap.size := hlb
  generalize (World.drewN _ nq) = V0 at HG HB l0 hlb ⊢
  clear c0 c1 c2 c3 c4
  obtain ⟨c0, c1, c2, c3, c4⟩ := HB.cells
  go_wp2_with (first | (go_at_call 21; refine (gr_below (writes_any _ _ _ _ _ h0 h1 d0 d1 s0 s1 _)).mono ?_; rw [hk]; rintro r w3 ⟨rfl, hb⟩; replace HG := HG.trans (hb.mono HG.size); replace HB := HB.below hb; replace l0 := (hb.cell (p := ⟨lb, lo, none⟩) hlb).trans l0; replace hlb := Nat.lt_of_lt_of_le hlb hb.size; clear hb; obtain ⟨c0, c1, c2, c3, c4⟩ := HB.cells) | (go_at_call 17; refine (gr_below (isize_any _ _ _ _ _ h0 h1 d0 d1 s0 s1 _)).mono ?_; rw [hk, hz]; rintro r w3 ⟨rfl, hb⟩; replace HG := HG.trans (hb.mono HG.size); replace HB := HB.below hb; replace l0 := (hb.cell (p := ⟨lb, lo, none⟩) hlb).trans l0; replace hlb := Nat.lt_of_lt_of_le hlb hb.size; clear hb; obtain ⟨c0, c1, c2, c3, c4⟩ := HB.cells) | (go_at_call 19; refine (gr_below (wide_any _ _ _ _ _ h0 h1 d0 d1 s0 s1 _)).mono ?_; rw [hk, hw]; rintro r w3 ⟨rfl, hb⟩; replace HG := HG.trans (hb.mono HG.size); replace HB := HB.below hb; replace l0 := (hb.cell (p := ⟨lb, lo, none⟩) hlb).trans l0; replace hlb := Nat.lt_of_lt_of_le hlb hb.size; clear hb; obtain ⟨c0, c1, c2, c3, c4⟩ := HB.cells) | (go_at_call 8; refine (alive_any _).mono ?_; rintro r w3 ⟨rfl, hb⟩; replace HG := HG.trans (hb.mono HG.size); replace HB := HB.below hb; replace l0 := (hb.cell (p := ⟨lb, lo, none⟩) hlb).trans l0; replace hlb := Nat.lt_of_lt_of_le hlb hb.size; clear hb; obtain ⟨c0, c1, c2, c3, c4⟩ := HB.cells))
  rw [rounds_succ]
  go_wp2_with (first | (go_at_call 21; refine (gr_below (writes_any _ _ _ _ _ h0 h1 d0 d1 s0 s1 _)).mono ?_; rw [hk]; rintro r w3 ⟨rfl, hb⟩; replace HG := HG.trans (hb.mono HG.size); replace HB := HB.below hb; replace l0 := (hb.cell (p := ⟨lb, lo, none⟩) hlb).trans l0; replace hlb := Nat.lt_of_lt_of_le hlb hb.size; clear hb; obtain ⟨c0, c1, c2, c3, c4⟩ := HB.cells) | (go_at_call 17; refine (gr_below (isize_any _ _ _ _ _ h0 h1 d0 d1 s0 s1 _)).mono ?_; rw [hk, hz]; rintro r w3 ⟨rfl, hb⟩; replace HG := HG.trans (hb.mono HG.size); replace HB := HB.below hb; replace l0 := (hb.cell (p := ⟨lb, lo, none⟩) hlb).trans l0; replace hlb := Nat.lt_of_lt_of_le hlb hb.size; clear hb; obtain ⟨c0, c1, c2, c3, c4⟩ := HB.cells) | (go_at_call 19; refine (gr_below (wide_any _ _ _ _ _ h0 h1 d0 d1 s0 s1 _)).mono ?_; rw [hk, hw]; rintro r w3 ⟨rfl, hb⟩; replace HG := HG.trans (hb.mono HG.size); replace HB := HB.below hb; replace l0 := (hb.cell (p := ⟨lb, lo, none⟩) hlb).trans l0; replace hlb := Nat.lt_of_lt_of_le hlb hb.size; clear hb; obtain ⟨c0, c1, c2, c3, c4⟩ := HB.cells) | (go_at_call 8; refine (alive_any _).mono ?_; rintro r w3 ⟨rfl, hb⟩; replace HG := HG.trans (hb.mono HG.size); replace HB := HB.below hb; replace l0 := (hb.cell (p := ⟨lb, lo, none⟩) hlb).trans l0; replace hlb := Nat.lt_of_lt_of_le hlb hb.size; clear hb; obtain ⟨c0, c1, c2, c3, c4⟩ := HB.cells))
  go_returns
  exact ⟨rfl, HG⟩
end Go.Proofs.Ythbmgfnifolcbaa
